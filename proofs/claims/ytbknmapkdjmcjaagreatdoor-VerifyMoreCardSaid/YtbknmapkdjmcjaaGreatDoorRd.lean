/-
  WALKS: octet.New and the reader's small calls (functions 25, 31, 32, 33, 44, 45): what each answers, and what becomes of the reader's own block.
-/
import Derived.Test.YtbknmapkdjmcjaaGreatDoorPt
import Derived.Deep.QuietTactic
import Derived.BigQuiet
import Derived.RegionTactic
namespace Go.Proofs.YtbknmapkdjmcjaaGreatDoor.By
open Go.ChangeShapes Go.WideShapes Go.ChangeAt Go.RowKit
open Mem

/-- Block g is a reader: its bytes (they lie below it), how many were taken, whether it is good. -/
structure Rdr (w : World) (g : Nat) (A : Option Addr) (c : Nat) (l : List UInt8) (p : Nat) (good : Bool) : Prop where
  blk : Blk w g 104 #[.slice A l.length c, .int .i64 p, .bool good]
  row : SlV w g (.slice A l.length c) (u8s l)
  le : p ≤ l.length
  few : l.length ≤ 1099511627776

section
variable {w w' : World} {g : Nat} {A : Option Addr} {c : Nat} {l : List UInt8} {p : Nat} {good : Bool} {v : Value} {vs : List Value}

theorem Rdr.c0 (h : Rdr w g A c l p good) : w.cell? ⟨g, 0, none⟩ = some (.slice A l.length c) := by rw [h.blk.cell]; rfl
theorem Rdr.c1 (h : Rdr w g A c l p good) : w.cell? ⟨g, 1, none⟩ = some (.int .i64 p) := by rw [h.blk.cell]; rfl
theorem Rdr.c2 (h : Rdr w g A c l p good) : w.cell? ⟨g, 2, none⟩ = some (.bool good) := by rw [h.blk.cell]; rfl
theorem Rdr.f (h : Rdr w g A c l p good) (i : Nat) : w.frozen? ⟨g, i, none⟩ = false := h.blk.frozen i

theorem Rdr.drewN (h : Rdr w g A c l p good) (n : Nat) : Rdr (w.drewN n) g A c l p good := ⟨h.blk, h.row.keep fun _ _ => rfl, h.le, h.few⟩

theorem row_set (h : SlV w g v vs) (i : Nat) (u : Value) : SlV (w.setCell ⟨g, i, none⟩ u) g v vs :=
  h.keep fun q hq => World.cell?_setCell_other w ⟨g, i, none⟩ q u (fun e => by subst e; simp at hq)

theorem Rdr.moved (h : Rdr w g A c l p good) (q : Nat) (hq : q ≤ l.length) : Rdr (w.setCell ⟨g, 1, none⟩ (.int .i64 q)) g A c l q good :=
  ⟨by have := h.blk.stored 1 (.int .i64 q); simpa using this, row_set h.row _ _, hq, h.few⟩

theorem Rdr.spoiled (h : Rdr w g A c l p good) : Rdr (w.setCell ⟨g, 2, none⟩ (.bool false)) g A c l p false :=
  ⟨by have := h.blk.stored 2 (.bool false); simpa using this, row_set h.row _ _, h.le, h.few⟩

theorem Rdr.below (h : Rdr w g A c l p good) {B : Nat} (hb : Below B w w') (hg : g < B) : Rdr w' g A c l p good :=
  ⟨h.blk.below hb hg, h.row.keep fun q hq => hb.cell (by omega), h.le, h.few⟩
end

theorem bad_any (w : World) (g : Nat) (A : Option Addr) (c : Nat) (l : List UInt8) (p : Nat) (good : Bool) (h : Rdr w g A c l p good) :
    Calls Tryz.prog 227 #[.pointer (some ⟨g, 0, none⟩)] w fun e w' => e = .returned (.bool (!good)) ∧ w = w' := by
  have h2 := h.c2
  clear h
  go_enter Tryz.func227, Tryz.ntmps227
  go_wp2
  go_ret
  exact ⟨rfl, rfl⟩

theorem bad_nil (w : World) : Calls Tryz.prog 227 #[.pointer none] w fun e w' => e = .returned (.bool true) ∧ w = w' := by
  go_enter Tryz.func227, Tryz.ntmps227
  go_wp2
  go_ret
  exact ⟨rfl, rfl⟩

theorem at_any (w : World) (g : Nat) (A : Option Addr) (c : Nat) (l : List UInt8) (p : Nat) (good : Bool) (h : Rdr w g A c l p good) :
    Calls Tryz.prog 28 #[.pointer (some ⟨g, 0, none⟩)] w fun e w' => e = .returned (.int .i64 p) ∧ w = w' := by
  have h1 := h.c1
  clear h
  go_enter Tryz.func28, Tryz.ntmps28
  go_wp2
  go_ret
  exact ⟨rfl, rfl⟩

theorem at_nil (w : World) : Calls Tryz.prog 28 #[.pointer none] w fun e w' => e = .returned (.int .i64 0) ∧ w = w' := by
  go_enter Tryz.func28, Tryz.ntmps28
  go_wp2
  go_ret
  exact ⟨rfl, rfl⟩

theorem left_nil (w : World) : Calls Tryz.prog 271 #[.pointer none] w fun e w' => e = .returned (.int .i64 0) ∧ w = w' := by
  go_enter Tryz.func271, Tryz.ntmps271
  go_wp2
  go_ret
  exact ⟨rfl, rfl⟩

theorem left_any (w : World) (g : Nat) (A : Option Addr) (c : Nat) (l : List UInt8) (p : Nat) (good : Bool) (h : Rdr w g A c l p good) :
    Calls Tryz.prog 271 #[.pointer (some ⟨g, 0, none⟩)] w fun e w' => e = .returned (.int .i64 ((l.length : Int) - p)) ∧ ∃ n, w' = w.drewN n := by
  have h0 := h.c0
  have h1 := h.c1
  have hp := h.le
  have hl := h.few
  clear h
  generalize l.length = m at h0 hp hl ⊢
  go_enter Tryz.func271, Tryz.ntmps271
  go_wp2
  go_quiet (fail)
  go_wp2
  go_ret
  exact ⟨rfl, _, rfl⟩

theorem take_bad (w : World) (g : Nat) (A : Option Addr) (c : Nat) (l : List UInt8) (p : Nat) (h : Rdr w g A c l p false) (sk n : Int) (may : Bool) :
    Calls Tryz.prog 296 #[.pointer (some ⟨g, 0, none⟩), .int .i64 sk, .int .i64 n, .bool may] w fun e w' => e = .returned (.slice none 0 0) ∧ w = w' := by
  have H := Lib.hid h
  clear h
  go_enter Tryz.func296, Tryz.ntmps296
  go_wp2_with (go_at_call 227; refine (bad_any _ g A c l p false H.out).mono ?_; rintro e w' ⟨rfl, rfl⟩)
  go_ret
  exact ⟨rfl, rfl⟩

theorem take_nil (w : World) (sk n : Int) (may : Bool) :
    Calls Tryz.prog 296 #[.pointer none, .int .i64 sk, .int .i64 n, .bool may] w fun e w' => e = .returned (.slice none 0 0) ∧ w = w' := by
  go_enter Tryz.func296, Tryz.ntmps296
  go_wp2_with (go_at_call 227; refine (bad_nil _).mono ?_; rintro e w' ⟨rfl, rfl⟩)
  go_ret
  exact ⟨rfl, rfl⟩

theorem take_not (w : World) (g : Nat) (A : Option Addr) (c : Nat) (l : List UInt8) (p : Nat) (h : Rdr w g A c l p true) (sk n : Int) :
    Calls Tryz.prog 296 #[.pointer (some ⟨g, 0, none⟩), .int .i64 sk, .int .i64 n, .bool false] w fun e w' => e = .returned (.slice none 0 0) ∧ w.setCell ⟨g, 2, none⟩ (.bool false) = w' := by
  have H := Lib.hid h
  have h2 := h.c2
  have f2 := h.f 2
  clear h
  go_enter Tryz.func296, Tryz.ntmps296
  go_wp2_with (go_at_call 227; refine (bad_any _ g A c l p true H.out).mono ?_; rintro e w' ⟨rfl, rfl⟩)
  go_ret
  exact ⟨rfl, rfl⟩

theorem take_short (w : World) (g : Nat) (A : Option Addr) (c : Nat) (l : List UInt8) (p : Nat) (h : Rdr w g A c l p true) (sk n : Nat) (hs : (sk : Int) ≤ 1) (hn : (n : Int) ≤ 255) (hgt : (l.length : Int) - p < sk + n) :
    Calls Tryz.prog 296 #[.pointer (some ⟨g, 0, none⟩), .int .i64 sk, .int .i64 n, .bool true] w fun e w' => e = .returned (.slice none 0 0) ∧ ∃ q, (w.setCell ⟨g, 2, none⟩ (.bool false)).drewN q = w' := by
  have H := Lib.hid h
  have h2 := h.c2
  have f2 := h.f 2
  have hp := h.le
  have hl := h.few
  clear h
  go_enter Tryz.func296, Tryz.ntmps296
  go_wp2_with (first | (go_at_call 227; refine (bad_any _ g A c l p true H.out).mono ?_; rintro e w' ⟨rfl, rfl⟩) | (go_at_call 271; refine (left_any _ g A c l p true H.out).mono ?_; rintro e w' ⟨rfl, q, rfl⟩))
  go_ret
  exact ⟨rfl, _, rfl⟩

theorem set_draws (w : World) (a : Addr) (u : Value) (q n : Nat) : (w.setCell a u).drewN (q + n) = ((w.drewN q).setCell a u).drewN n := by
  rw [← World.drewN_drewN]; rfl

theorem slice_eq {A : Option Addr} {n n' c c' : Nat} (h : n = n') (h' : c = c') : Ending.returned (.slice A n c) = .returned (.slice A n' c') := by rw [h, h']

/-- What taking leaves: the bytes, where they lie; how far the reader is. -/
def Took (w : World) (g p n m : Nat) (us : List Value) (e : Ending) (w' : World) : Prop :=
  ∃ ad cap q, e = .returned (.slice (some ad) n cap) ∧ n ≤ cap ∧ cap ≤ maxLen ∧ Row w g ad us ∧ (w.setCell ⟨g, 1, none⟩ (.int .i64 (p + m : Nat))).drewN q = w'

theorem take_ok (w : World) (g : Nat) (A : Option Addr) (c : Nat) (l : List UInt8) (p : Nat) (h : Rdr w g A c l p true) (sk n : Nat) (hs : (sk : Int) ≤ 1) (hn : (n : Int) ≤ 255) (hle : sk + (n : Int) ≤ (l.length : Int) - p) (h1 : 1 ≤ (sk : Int) + n) :
    Calls Tryz.prog 296 #[.pointer (some ⟨g, 0, none⟩), .int .i64 sk, .int .i64 n, .bool true] w (Took w g p n (sk + n) (u8s ((l.drop (p + sk)).take n))) := by
  have H := Lib.hid h
  have h0 := h.c0
  have h1' := h.c1
  have f1 := h.f 1
  have hp := h.le
  have hl := h.few
  rcases h.row.inv with ⟨_, hn0, _, _⟩ | ⟨ad, rfl, _, hnc, hcm, hrow⟩
  · omega
  · unfold maxLen at hcm
    clear h
    generalize hll : l.length = m at h0 hp hl hle hnc
    have HLL := Lib.hid hll
    clear hll
    have hR := hrow.drop (p + sk)
    have hd : (u8s l).drop (p + sk) = u8s (l.drop (p + sk)) := by simp [u8s, List.map_drop]
    rw [hd] at hR
    have hR2 := hR.take n
    have ht : (u8s (l.drop (p + sk))).take n = u8s ((l.drop (p + sk)).take n) := by simp [u8s, List.map_take]
    rw [ht] at hR2
    have HR := Lib.hid hR2
    have HX := Lib.hid (show ((p + (sk + n) : Nat) : Int) = (p : Int) + sk + n by omega)
    clear hrow hR hR2 hd ht
    by_cases hcp : c = p + sk
    · subst hcp
      have hn0 : n = 0 := by omega
      have HRO := Lib.hid (show Row w g ad (u8s ((l.drop (p + sk)).take n)) by rw [hn0]; intro j u hu; simp [u8s] at hu)
      clear hn0
      go_enter Tryz.func296, Tryz.ntmps296
      go_wp2_with (first | (go_at_call 227; refine (bad_any _ g (some ad) (p + sk) l p true H.out).mono ?_; rintro e w' ⟨rfl, rfl⟩) | (go_at_call 271; refine (left_any _ g (some ad) (p + sk) l p true H.out).mono ?_; rintro e w' ⟨rfl, q, rfl⟩; rw [HLL.out]))
      go_quiet (fail)
      go_wp2
      go_ret
      refine ⟨ad, 0, q + nq, slice_eq (by omega) (by omega), by omega, by unfold maxLen; omega, HRO.out, ?_⟩
      rw [HX.out]; exact set_draws _ _ _ _ _
    · go_enter Tryz.func296, Tryz.ntmps296
      go_wp2_with (first | (go_at_call 227; refine (bad_any _ g (some ad) c l p true H.out).mono ?_; rintro e w' ⟨rfl, rfl⟩) | (go_at_call 271; refine (left_any _ g (some ad) c l p true H.out).mono ?_; rintro e w' ⟨rfl, q, rfl⟩; rw [HLL.out]))
      go_quiet (fail)
      go_wp2
      go_ret
      refine ⟨ad.add (p + sk), c - (p + sk), q + nq, slice_eq (by omega) rfl, by omega, by unfold maxLen; omega, HR.out, ?_⟩
      rw [HX.out]; exact set_draws _ _ _ _ _

/-- octet.New: a reader in a new block, of a copy of the bytes. -/
def Made (w : World) (l : List UInt8) (e : Ending) (w' : World) : Prop :=
  ∃ g A c, e = .returned (.pointer (some ⟨g, 0, none⟩)) ∧ w.heap.size ≤ g ∧ Rdr w' g A c l 0 true ∧ Below w.heap.size w w'

theorem new_any (v : Value) (l : List UInt8) (w : World) (B : Nat) (h : SlV w B v (u8s l)) (hl : l.length ≤ 1099511627776) :
    Calls Tryz.prog 24 #[v] w (Made w l) := by
  have HC := Lib.hid (clone_any v (u8s l) w B h (u8s_one l) (by rw [u8s_length]; exact hl))
  clear h
  go_enter Tryz.func24, Tryz.ntmps24
  go_wp2_with fail
  refine HC.out.mono ?_
  rintro e w1 ⟨v1, rfl, hown, hb⟩
  have hv := SlV.of_own hown
  have HV := Lib.hid hv
  have HB := Lib.hid hb
  have hsz := hb.size
  clear hown hb
  have hform : ∃ A c, v1 = .slice A l.length c := by
    have := hv.form
    rwa [u8s_length] at this
  clear hv
  obtain ⟨A, c, rfl⟩ := hform
  go_wp2
  go_ret
  refine ⟨w1.heap.size, A, c, rfl, hsz, ⟨Blk.new _ _ _, ?_, by omega, hl⟩, HB.out.alloc hsz _⟩
  exact HV.out.keep fun q hq => World.cell?_alloc_lt w1 _ q hq

/-- The reader's ahead: how many bytes the next text says that it has. -/
theorem ahead_bad (w : World) (g : Nat) (A : Option Addr) (c : Nat) (l : List UInt8) (p : Nat) (h : Rdr w g A c l p false) :
    Calls Tryz.prog 330 #[.pointer (some ⟨g, 0, none⟩)] w fun e w' => e = .returned (.tuple #[.int .i64 0, .bool false]) ∧ w = w' := by
  have H := Lib.hid h
  clear h
  go_enter Tryz.func330, Tryz.ntmps330
  go_wp2_with (go_at_call 227; refine (bad_any _ g A c l p false H.out).mono ?_; rintro e w' ⟨rfl, rfl⟩)
  go_ret2
  exact ⟨rfl, rfl⟩

theorem ahead_nil (w : World) : Calls Tryz.prog 330 #[.pointer none] w fun e w' => e = .returned (.tuple #[.int .i64 0, .bool false]) ∧ w = w' := by
  go_enter Tryz.func330, Tryz.ntmps330
  go_wp2_with (go_at_call 227; refine (bad_nil _).mono ?_; rintro e w' ⟨rfl, rfl⟩)
  go_ret2
  exact ⟨rfl, rfl⟩

theorem ahead_end (w : World) (g : Nat) (A : Option Addr) (c : Nat) (l : List UInt8) (p : Nat) (h : Rdr w g A c l p true) (hp : p = l.length) :
    Calls Tryz.prog 330 #[.pointer (some ⟨g, 0, none⟩)] w fun e w' => e = .returned (.tuple #[.int .i64 0, .bool false]) ∧ ∃ q, w' = w.drewN q := by
  have H := Lib.hid h
  have hx : ((l.length : Int) - p == 0) = true := by simp; omega
  have HX := Lib.hid (show (l.length : Int) - p = 0 by omega)
  clear h hx hp
  go_enter Tryz.func330, Tryz.ntmps330
  go_wp2_with (first | (go_at_call 227; refine (bad_any _ g A c l p true H.out).mono ?_; rintro e w' ⟨rfl, rfl⟩) | (go_at_call 271; refine (left_any _ g A c l p true H.out).mono ?_; rintro e w' ⟨rfl, q, rfl⟩; rw [HX.out]))
  go_ret2
  exact ⟨rfl, _, rfl⟩

theorem ahead_some (w : World) (g : Nat) (A : Option Addr) (c : Nat) (l : List UInt8) (p : Nat) (h : Rdr w g A c l p true) (hp : p < l.length) :
    Calls Tryz.prog 330 #[.pointer (some ⟨g, 0, none⟩)] w fun e w' => e = .returned (.tuple #[.int .i64 (l[p].toNat : Int), .bool true]) ∧ ∃ q, w' = w.drewN q := by
  have H := Lib.hid h
  have h0 := h.c0
  have h1' := h.c1
  have hl := h.few
  rcases h.row.inv with ⟨_, hn0, _, _⟩ | ⟨ad, rfl, _, hnc, hcm, hrow⟩
  · omega
  · have hc := (hrow p (.int .u8 (l[p].toNat : Int)) (by simp [u8s, hp])).2
    have hx : ((l.length : Int) - p == 0) = false := by simp; omega
    have hb := l[p].toNat_lt
    clear h hrow
    generalize l[p].toNat = x at hc hb ⊢
    generalize hll : l.length = m at h0 hp hl hx
    have HLL := Lib.hid hll
    clear hll
    go_enter Tryz.func330, Tryz.ntmps330
    go_wp2_with (first | (go_at_call 227; refine (bad_any _ g (some ad) c l p true H.out).mono ?_; rintro e w' ⟨rfl, rfl⟩) | (go_at_call 271; refine (left_any _ g (some ad) c l p true H.out).mono ?_; rintro e w' ⟨rfl, q, rfl⟩; rw [HLL.out]))
    go_quiet (fail)
    go_wp2
    go_ret2
    exact ⟨rfl, _, World.drewN_drewN ..⟩
end Go.Proofs.YtbknmapkdjmcjaaGreatDoor.By
