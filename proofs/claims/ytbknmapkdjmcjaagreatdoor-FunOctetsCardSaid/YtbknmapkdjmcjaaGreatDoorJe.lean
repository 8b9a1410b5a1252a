/-
  WALKS of layer 16: the reader of functions: tell, wide, number, flag, line, instr, reference. WALKS of layer 16: the reader of functions: line, instr, reference, and several of each. WALKS of layer 16: the reader's function. WALK of layer 16: Get.
-/
import Derived.Test.YtbknmapkdjmcjaaGreatDoorJa
import Derived.Test.YtbknmapkdjmcjaaGreatDoorIj
import Derived.Test.YtbknmapkdjmcjaaGreatDoorEf
namespace Go.Proofs.YtbknmapkdjmcjaaGreatDoor.By
open Go.RowKit
open Mem Gm Rf
set_option linter.unusedSimpArgs false
set_option linter.unusedVariables false

/-- How a reader of functions stands: the bytes' reader, and what was wrong first. -/
abbrev Sw := Std × Int
def tlS (why e : Int) : Int := if why = 0 then e else why
def tlW (q : Sw) (e : Int) : Sw := (q.1, tlS q.2 e)
def wdS (l : List UInt8) (q : Sw) (k : Int) : Sw := if (pgS l q.1 k).2 = true then (pgS l q.1 k, q.2) else tlW (pgS l q.1 k, q.2) 5
def nvS (l : List UInt8) (q : Sw) (k : Int) : Int := rvS l q.1 k
def fgV (l : List UInt8) (q : Sw) : Bool := decide (nvS l q 1 = 1)
def fgS (l : List UInt8) (q : Sw) : Sw := if 1 < nvS l q 1 then tlW (wdS l q 1) 3 else wdS l q 1

/-- What lies where the bytes' reader is; there may be none. -/
def RdO (W : World) (P : Option Addr) (G : Option Nat) (A : Option Addr) (c : Nat) (l : List UInt8) (s : Std) : Prop :=
  (∃ g, P = some ⟨g, 0, none⟩ ∧ G = some g ∧ RdS W g A c l s) ∨ (P = none ∧ G = none ∧ l = [] ∧ s = (0, false))
/-- Of what was there, two blocks alone have turned. -/
structure Tw (G : Option Nat) (o : Nat) (w w' : World) : Prop where
  os : w'.os = w.os
  tape : w'.tape = w.tape
  output : w'.output = w.output
  size : w.heap.size ≤ w'.heap.size
  block : ∀ k, k < w.heap.size → some k ≠ G → k ≠ o → w'.heap[k]? = w.heap[k]?
section
variable {G : Option Nat} {o : Nat} {a b c : World}
theorem Tw.refl (G : Option Nat) (o : Nat) (w : World) : Tw G o w w := ⟨rfl, rfl, rfl, Nat.le_refl _, fun _ _ _ _ => rfl⟩
theorem Tw.trans (h : Tw G o a b) (k : Tw G o b c) : Tw G o a c :=
  ⟨k.os.trans h.os, k.tape.trans h.tape, k.output.trans h.output, Nat.le_trans h.size k.size, fun i hi h1 h2 => (k.block i (Nat.lt_of_lt_of_le hi h.size) h1 h2).trans (h.block i hi h1 h2)⟩
theorem Tw.only (k : b.grownBy c G) : Tw G o b c := ⟨k.os, k.tape, k.output, k.size, fun i hi h1 _ => k.block i hi h1⟩
theorem Tw.row {r : Option Nat} (h : Tw G o a b) (k : b.grownBy c r) (hr : ∀ x, r = some x → a.heap.size ≤ x) : Tw G o a c :=
  ⟨k.os.trans h.os, k.tape.trans h.tape, k.output.trans h.output, Nat.le_trans h.size k.size, fun i hi h1 h2 => (k.block i (Nat.lt_of_lt_of_le hi h.size) (fun e => by have := hr i e.symm; omega)).trans (h.block i hi h1 h2)⟩
theorem Tw.bel (h : Tw G o a b) (k : Below a.heap.size b c) : Tw G o a c :=
  ⟨k.os.trans h.os, k.tape.trans h.tape, k.output.trans h.output, Nat.le_trans h.size k.size, fun i hi h1 h2 => (k.block i hi).trans (h.block i hi h1 h2)⟩
theorem Tw.of (k : Below b.heap.size b c) : Tw G o b c := (Tw.refl G o b).bel k
theorem Tw.setO (h : Tw G o a b) (i : Nat) (u : Value) : Tw G o a (b.setCell ⟨o, i, none⟩ u) :=
  ⟨h.os, h.tape, h.output, by simpa [World.setCell] using h.size, fun k hk h1 h2 => (Below.heap_setCell b ⟨o, i, none⟩ u k h2).trans (h.block k hk h1 h2)⟩
theorem Tw.high (h : Tw G o a b) (p : Addr) (u : Value) (hp : a.heap.size ≤ p.block) : Tw G o a (b.setCell p u) :=
  ⟨h.os, h.tape, h.output, by simpa [World.setCell] using h.size, fun k hk h1 h2 => (Below.heap_setCell b p u k (by omega)).trans (h.block k hk h1 h2)⟩
theorem Tw.new (h : Tw G o a b) (x : Obj) : Tw G o a (b.alloc x) := h.bel ((Below.refl _ b).alloc h.size x)
theorem Tw.own {base n k : Nat} {E : TypeId} {v : Value} {xs : List Value} (h : Tw G o a b) (ho : a.ownsRow base E k v n xs) (h1 : ∀ g, G = some g → g < base) (h2 : o < base) : b.ownsRow base E k v n xs :=
  ownk_keep ho fun g hb hlt => h.block g hlt (fun e => by have := h1 g e.symm; omega) (by omega)
theorem Tw.blk {r : Nat} {t : TypeId} {cs : Array Value} (h : Tw G o a b) (hb : Blk a r t cs) (h1 : some r ≠ G) (h2 : r ≠ o) : Blk b r t cs := (h.block r hb.lt h1 h2).trans hb
theorem Tw.cell {p : Addr} (h : Tw G o a b) (hp : p.block < a.heap.size) (h1 : some p.block ≠ G) (h2 : p.block ≠ o) : b.cell? p = a.cell? p := World.cell?_of_block (h.block p.block hp h1 h2)
theorem Txs.tw (h : Txs a) (k : Tw G o a b) (h1 : ∀ g, G = some g → 3 ≤ g) (h2 : 3 ≤ o) : Txs b :=
  ⟨fun i hi => (k.cell (World.block_lt_of_cell? a _ (h.1 i hi)) (fun e => by have := h1 _ e.symm; simp at this) (by show (2 : Nat) ≠ o; omega)).trans (h.1 i hi),
   fun i hi => (k.cell (World.block_lt_of_cell? a _ (h.2 i hi)) (fun e => by have := h1 _ e.symm; simp at this) (by show (0 : Nat) ≠ o; omega)).trans (h.2 i hi)⟩
end
/-- A reader of functions. -/
structure Rf9 (W : World) (P : Option Addr) (G : Option Nat) (o : Nat) (A : Option Addr) (c : Nat) (l : List UInt8) (q : Sw) : Prop where
  rd : RdO W P G A c l q.1
  bk : Blk W o 107 #[.pointer P, .int .i64 q.2]
  lt : ∀ g, G = some g → g < o
section
variable {W W' : World} {P : Option Addr} {G : Option Nat} {o : Nat} {A : Option Addr} {c : Nat} {l : List UInt8} {q : Sw}
theorem RdO.below {s : Std} (h : RdO W P G A c l s) {B : Nat} (hb : Below B W W') (hg : ∀ g, G = some g → g < B) : RdO W' P G A c l s := by
  rcases h with ⟨g, h1, h2, h3⟩ | h
  · exact .inl ⟨g, h1, h2, rdS_below h3 hb (hg g h2)⟩
  · exact .inr h
theorem Rf9.below (h : Rf9 W P G o A c l q) {B : Nat} (hb : Below B W W') (hB : o < B) : Rf9 W' P G o A c l q :=
  ⟨h.rd.below hb (fun g e => by have := h.lt g e; omega), h.bk.below hb hB, h.lt⟩
theorem Rf9.told (h : Rf9 W P G o A c l q) (e : Int) : Rf9 (W.setCell ⟨o, 1, none⟩ (.int .i64 e)) P G o A c l (q.1, e) :=
  ⟨h.rd.below (B := o) ((Below.refl o W).setCell (by show o ≤ o; omega) _) h.lt, h.bk.stored 1 _, h.lt⟩
/-- The bytes' reader went on. -/
theorem Rf9.moved {s : Std} (h : Rf9 W P G o A c l q) (hr : RdO W' P G A c l s) (hg : W.grownBy W' G) : Rf9 W' P G o A c l (s, q.2) :=
  ⟨hr, (hg.block o h.bk.lt (fun e => by have := h.lt o e.symm; omega)).trans h.bk, h.lt⟩
end
def TwAns (W : World) (P : Option Addr) (G : Option Nat) (o : Nat) (A : Option Addr) (c : Nat) (l : List UInt8) (v : Value) (q : Sw) (e : Ending) (w' : World) : Prop :=
  e = .returned v ∧ Rf9 w' P G o A c l q ∧ Tw G o W w'

theorem numO (W : World) (P : Option Addr) (G : Option Nat) (A : Option Addr) (c : Nat) (l : List UInt8) (s : Std) (h : RdO W P G A c l s) (k : Int) :
    Calls Tryz.prog 190 #[.pointer P, .int .i64 k] W fun e w' => e = .returned (.int .i64 (rvS l s k)) ∧ RdO w' P G A c l (pgS l s k) ∧ W.grownBy w' G := by
  rcases h with ⟨g, rfl, rfl, h⟩ | ⟨rfl, rfl, rfl, rfl⟩
  · exact (num_s W g A c l s h k).mono fun e w' hh => ⟨hh.1, .inl ⟨g, rfl, rfl, hh.2.1⟩, hh.2.2⟩
  · refine (num_nil W k).mono fun e w' hh => ?_
    obtain ⟨rfl, rfl⟩ := hh
    exact ⟨by unfold rvS readV fitsB; simp, .inr ⟨rfl, rfl, rfl, by unfold pgS readP fitsB; simp⟩, ⟨rfl, rfl, rfl, Nat.le_refl _, fun _ _ _ => rfl⟩⟩
theorem badO (W : World) (P : Option Addr) (G : Option Nat) (A : Option Addr) (c : Nat) (l : List UInt8) (s : Std) (h : RdO W P G A c l s) :
    Calls Tryz.prog 227 #[.pointer P] W fun e w' => e = .returned (.bool (!s.2)) ∧ W = w' := by
  rcases h with ⟨g, rfl, rfl, h⟩ | ⟨rfl, rfl, rfl, rfl⟩
  · exact bad_s W g A c l s h
  · exact bad_nil W
theorem ftell_any (W : World) (P : Option Addr) (G : Option Nat) (o : Nat) (A : Option Addr) (c : Nat) (l : List UInt8) (q : Sw) (h : Rf9 W P G o A c l q) (e : Int) :
    Calls Tryz.prog 228 #[.pointer (some ⟨o, 0, none⟩), .int .i64 e] W (TwAns W P G o A c l (.tuple #[]) (tlW q e)) := by
  obtain ⟨s, why⟩ := q
  have c1 : W.cell? ⟨o, 1, none⟩ = some (.int .i64 why) := h.bk.cell 1
  have f1 : W.frozen? ⟨o, 1, none⟩ = false := h.bk.frozen 1
  by_cases hz : why = 0
  · subst hz
    have H := Lib.hid (show tlW (s, 0) e = (s, e) from rfl)
    have HT := Lib.hid (h.told e)
    clear h
    go_enter Tryz.func228, Tryz.ntmps228
    go_wp2
    go_end0
    exact ⟨rfl, by rw [H.out]; exact HT.out, (Tw.refl G o W).setO 1 _⟩
  · have hb : (why == 0) = false := by simp [hz]
    have H := Lib.hid (show tlW (s, why) e = (s, why) from by unfold tlW tlS; rw [if_neg hz])
    have HT := Lib.hid h
    clear h hz
    go_enter Tryz.func228, Tryz.ntmps228
    go_wp2
    go_end0
    exact ⟨rfl, by rw [H.out]; exact HT.out, Tw.refl G o W⟩

set_option maxHeartbeats 1000000 in
theorem fwide_any (W : World) (P : Option Addr) (G : Option Nat) (o : Nat) (A : Option Addr) (c : Nat) (l : List UInt8) (q : Sw) (h : Rf9 W P G o A c l q) (k : Int) :
    Calls Tryz.prog 154 #[.pointer (some ⟨o, 0, none⟩), .int .i64 k] W (TwAns W P G o A c l (.int .i64 (nvS l q k)) (wdS l q k)) := by
  obtain ⟨s, why⟩ := q
  have c0 : W.cell? ⟨o, 0, none⟩ = some (.pointer P) := h.bk.cell 0
  have HN := Lib.hid (numO W P G A c l s h.rd k)
  have HB := Lib.hid (fun W' (hh : RdO W' P G A c l (pgS l s k)) => badO W' P G A c l _ hh)
  have HM := Lib.hid (fun W' (hr : RdO W' P G A c l (pgS l s k)) (hg : W.grownBy W' G) => h.moved (q := (s, why)) hr hg)
  have HW := Lib.hid (show nvS l (s, why) k = rvS l s k from rfl)
  have HT := Lib.hid (fun W' (hh : Rf9 W' P G o A c l (pgS l s k, why)) => ftell_any W' P G o A c l _ hh 5)
  have HS := Lib.hid (show wdS l (s, why) k = if (pgS l s k).2 = true then (pgS l s k, why) else tlW (pgS l s k, why) 5 from rfl)
  rw [HW.out]
  generalize pgS l s k = s' at HN HB HM HT HS
  obtain ⟨p', gd⟩ := s'
  generalize rvS l s k = x at HN
  clear h HW
  cases gd with
  | true =>
    go_enter Tryz.func154, Tryz.ntmps154
    go_wp2_with (first
      | (go_at_call 190; refine HN.out.mono ?_; rintro e w1 ⟨rfl, hr1, hg1⟩; have HR1 := Lib.hid hr1; have HG1 := Lib.hid hg1; have HO1 := Lib.hid (HM.out w1 hr1 hg1); have c9 : w1.cell? ⟨o, 0, none⟩ = some (.pointer P) := HO1.out.bk.cell 0; clear hr1 hg1)
      | (go_at_call 227; refine (HB.out _ HR1.out).mono ?_; rintro e w2 ⟨rfl, rfl⟩))
    go_ret
    exact ⟨rfl, by rw [HS.out]; exact HO1.out, Tw.only HG1.out⟩
  | false =>
    go_enter Tryz.func154, Tryz.ntmps154
    go_wp2_with (first
      | (go_at_call 190; refine HN.out.mono ?_; rintro e w1 ⟨rfl, hr1, hg1⟩; have HR1 := Lib.hid hr1; have HG1 := Lib.hid hg1; have HO1 := Lib.hid (HM.out w1 hr1 hg1); have c9 : w1.cell? ⟨o, 0, none⟩ = some (.pointer P) := HO1.out.bk.cell 0; clear hr1 hg1)
      | (go_at_call 227; refine (HB.out _ HR1.out).mono ?_; rintro e w2 ⟨rfl, rfl⟩)
      | (go_at_call 228; refine (HT.out _ HO1.out).mono ?_; rintro e w3 ⟨rfl, hr3, ht3⟩; have HR3 := Lib.hid hr3; have HT3 := Lib.hid ht3; clear hr3 ht3))
    go_ret
    exact ⟨rfl, by rw [HS.out]; exact HR3.out, (Tw.only HG1.out).trans HT3.out⟩
theorem frnum_any (W : World) (P : Option Addr) (G : Option Nat) (o : Nat) (A : Option Addr) (c : Nat) (l : List UInt8) (q : Sw) (h : Rf9 W P G o A c l q) :
    Calls Tryz.prog 152 #[.pointer (some ⟨o, 0, none⟩)] W (TwAns W P G o A c l (.int .i64 (nvS l q 1)) (wdS l q 1)) := by
  have H := Lib.hid (fwide_any W P G o A c l q h 1)
  clear h
  go_enter Tryz.func152, Tryz.ntmps152
  go_wp2_with (go_at_call 154; refine H.out.mono ?_; rintro e w1 ⟨rfl, hr1, ht1⟩)
  go_ret
  exact ⟨rfl, hr1, ht1⟩
set_option maxHeartbeats 1000000 in
theorem frflag_any (W : World) (P : Option Addr) (G : Option Nat) (o : Nat) (A : Option Addr) (c : Nat) (l : List UInt8) (q : Sw) (h : Rf9 W P G o A c l q) :
    Calls Tryz.prog 155 #[.pointer (some ⟨o, 0, none⟩)] W (TwAns W P G o A c l (.bool (fgV l q)) (fgS l q)) := by
  have H := Lib.hid (frnum_any W P G o A c l q h)
  have HT := Lib.hid (fun W' (hh : Rf9 W' P G o A c l (wdS l q 1)) => ftell_any W' P G o A c l _ hh 3)
  unfold fgV fgS
  have HX := num_one l q.1
  obtain ⟨x, hx⟩ : ∃ x, nvS l q 1 = x := ⟨_, rfl⟩
  rw [show rvS l q.1 1 = x from hx] at HX
  rw [hx] at H ⊢
  generalize wdS l q 1 = q1 at H HT ⊢
  clear h hx
  by_cases hb : 1 < x
  · have e1 : decide (x = 1) = false := by simp; omega
    have e2 : (x == 1) = false := by simp; omega
    rw [if_pos hb, e1]
    go_enter Tryz.func155, Tryz.ntmps155
    go_wp2_with (first
      | (go_at_call 152; refine H.out.mono ?_; rintro e w1 ⟨rfl, hr1, ht1⟩; have HR1 := Lib.hid hr1; have HT1 := Lib.hid ht1; clear hr1 ht1)
      | (go_at_call 228; refine (HT.out _ HR1.out).mono ?_; rintro e w3 ⟨rfl, hr3, ht3⟩; have HR3 := Lib.hid hr3; have HT3 := Lib.hid ht3; clear hr3 ht3))
    go_ret
    exact ⟨rfl, HR3.out, HT1.out.trans HT3.out⟩
  · rw [if_neg hb]
    have e3 : x = 0 ∨ x = 1 := by omega
    rcases e3 with rfl | rfl
    all_goals
      go_enter Tryz.func155, Tryz.ntmps155
      go_wp2_with (go_at_call 152; refine H.out.mono ?_; rintro e w1 ⟨rfl, hr1, ht1⟩; have HR1 := Lib.hid hr1; have HT1 := Lib.hid ht1; clear hr1 ht1)
      go_ret
      exact ⟨rfl, HR1.out, HT1.out⟩
end Go.Proofs.YtbknmapkdjmcjaaGreatDoor.By

namespace Go.Proofs.YtbknmapkdjmcjaaGreatDoor.By
open Go.RowKit
open Mem Gm Rf
set_option linter.unusedSimpArgs false
set_option linter.unusedVariables false

def itS (f : Sw → Sw) : Nat → Sw → Sw
  | 0, q => q
  | k + 1, q => f (itS f k q)
def vls {α : Type} (v : Sw → α) (f : Sw → Sw) (k : Nat) (q : Sw) : List α := (List.range k).map fun i => v (itS f i q)
theorem vls_next {α : Type} (v : Sw → α) (f : Sw → Sw) (k : Nat) (q : Sw) : vls v f (k + 1) q = vls v f k q ++ [v (itS f k q)] := by unfold vls; rw [List.range_succ]; simp
theorem vls_len {α : Type} (v : Sw → α) (f : Sw → Sw) (k : Nat) (q : Sw) : (vls v f k q).length = k := by simp [vls]
def nmV1 (l : List UInt8) (q : Sw) : Int := nvS l q 1
def nmS1 (l : List UInt8) (q : Sw) : Sw := wdS l q 1
def lnV (l : List UInt8) (q : Sw) : Ln := (nvS l q 1, nvS l (wdS l q 1) 2)
def lnS (l : List UInt8) (q : Sw) : Sw := wdS l (wdS l q 1) 2
def rfV (l : List UInt8) (q : Sw) : Rl := (nvS l q 1, nvS l (wdS l q 1) 1, fgV l (wdS l (wdS l q 1) 1))
def rfS (l : List UInt8) (q : Sw) : Sw := fgS l (wdS l (wdS l q 1) 1)
open Classical in
noncomputable def inV5 (l : List UInt8) (q : Sw) : In5 :=
  if fitsB l q.1.1 q.1.2 8 = true ∧ chV (xrO l q.1.1) (xrA l q.1.1) (xrB l q.1.1) (xrC l q.1.1) (xrN l q.1.1) = 0 then (xrO l q.1.1, xrA l q.1.1, xrB l q.1.1, xrC l q.1.1, xrN l q.1.1) else (0, 0, 0, 0, 0)
noncomputable def inS5 (l : List UInt8) (q : Sw) : Sw := tlW (pgS l q.1 8, q.2) (gotE l q.1.1 q.1.2)
theorem gotI_eq (l : List UInt8) (q : Sw) : gotI l q.1.1 q.1.2 = #[.int .i64 (inV5 l q).1, .int .i64 (inV5 l q).2.1, .int .i64 (inV5 l q).2.2.1, .int .i64 (inV5 l q).2.2.2.1, .int .i64 (inV5 l q).2.2.2.2] := by
  unfold gotI inV5
  split
  · rfl
  · rfl
theorem Rf9.row {b c' : World} {P : Option Addr} {G : Option Nat} {o : Nat} {A : Option Addr} {c : Nat} {l : List UInt8} {q : Sw} {r : Option Nat} (h : Rf9 b P G o A c l q) (k : b.grownBy c' r) (hr : ∀ x, r = some x → o < x) : Rf9 c' P G o A c l q :=
  h.below (B := o + 1) (below_grown k (fun x e => hr x e) h.bk.lt) (Nat.lt_succ_self o)
theorem Rf9.new {b : World} {P : Option Addr} {G : Option Nat} {o : Nat} {A : Option Addr} {c : Nat} {l : List UInt8} {q : Sw} (h : Rf9 b P G o A c l q) (x : Obj) : Rf9 (b.alloc x) P G o A c l q :=
  h.below (B := b.heap.size) (alloc_ b x) h.bk.lt
theorem Rf9.put {b : World} {P : Option Addr} {G : Option Nat} {o : Nat} {A : Option Addr} {c : Nat} {l : List UInt8} {q : Sw} (h : Rf9 b P G o A c l q) (p : Addr) (u : Value) (hp : o < p.block) : Rf9 (b.setCell p u) P G o A c l q :=
  h.below (B := o + 1) ((Below.refl (o + 1) b).setCell (by omega) u) (Nat.lt_succ_self o)
theorem Txs.row {b c' : World} {r : Option Nat} (h : Txs b) (k : b.grownBy c' r) (hr : ∀ x, r = some x → 3 ≤ x) : Txs c' :=
  ⟨fun i hi => (World.cell?_of_block (k.block _ (World.block_lt_of_cell? b _ (h.1 i hi)) (fun e => by have := hr _ e.symm; simp at this))).trans (h.1 i hi),
   fun i hi => (World.cell?_of_block (k.block _ (World.block_lt_of_cell? b _ (h.2 i hi)) (fun e => by have := hr _ e.symm; simp at this))).trans (h.2 i hi)⟩
theorem infoI : (Tryz.prog.info? 3).map (fun i => (i.zero, i.size, i.bytes)) = some (some (.int .i64 0), 1, 8) := by kernel_rfl
theorem infoLn : (Tryz.prog.info? 85).map (fun i => (i.zero, i.size, i.bytes)) = some (some (.agg #[.int .i64 0, .int .i64 0]), 2, 16) := by kernel_rfl
theorem infoIn : (Tryz.prog.info? 94).map (fun i => (i.zero, i.size, i.bytes)) = some (some (.agg #[.int .i64 0, .int .i64 0, .int .i64 0, .int .i64 0, .int .i64 0]), 5, 40) := by kernel_rfl

set_option maxHeartbeats 1000000 in
theorem frline_any (W : World) (P : Option Addr) (G : Option Nat) (o : Nat) (A : Option Addr) (c : Nat) (l : List UInt8) (q : Sw) (h : Rf9 W P G o A c l q) :
    Calls Tryz.prog 157 #[.pointer (some ⟨o, 0, none⟩)] W (TwAns W P G o A c l (.agg #[.int .i64 (lnV l q).1, .int .i64 (lnV l q).2]) (lnS l q)) := by
  obtain ⟨W0, hW0⟩ : ∃ W0, W.alloc (.cells #[.int .i64 0, .int .i64 0] 85) = W0 := ⟨_, rfl⟩
  have HR0 := Lib.hid (show Rf9 W0 P G o A c l q from by rw [← hW0]; exact h.new _)
  have HB0 := Lib.hid (show Blk W0 W.heap.size 85 #[.int .i64 0, .int .i64 0] from by rw [← hW0]; exact Blk.new W _ _)
  have HT0 := Lib.hid (show Tw G o W W0 from by rw [← hW0]; exact (Tw.refl G o W).new _)
  have HLT := Lib.hid (show o < W.heap.size ∧ ∀ g, G = some g → g < W.heap.size from ⟨h.bk.lt, fun g e => by have := h.lt g e; have := h.bk.lt; omega⟩)
  have HN := Lib.hid (fun W' (hh : Rf9 W' P G o A c l q) => frnum_any W' P G o A c l q hh)
  have HW := Lib.hid (fun W' (hh : Rf9 W' P G o A c l (wdS l q 1)) => fwide_any W' P G o A c l _ hh 2)
  have HV := Lib.hid (show (lnV l q).1 = nvS l q 1 ∧ (lnV l q).2 = nvS l (wdS l q 1) 2 ∧ lnS l q = wdS l (wdS l q 1) 2 from ⟨rfl, rfl, rfl⟩)
  rw [HV.out.1, HV.out.2.1, HV.out.2.2]
  generalize nvS l (wdS l q 1) 2 = x1 at HW
  generalize wdS l (wdS l q 1) 2 = q2 at HW
  generalize wdS l q 1 = q1 at HW HN
  generalize nvS l q 1 = x0 at HN
  clear h HV
  go_enter Tryz.func157, Tryz.ntmps157
  go_wp2_with fail
  clear hW0
  refine (HN.out W0 HR0.out).mono ?_
  rintro e w1 ⟨rfl, hr1, ht1⟩
  have HR1 := Lib.hid hr1
  have HT1 := Lib.hid ht1
  clear hr1 ht1
  go_wp2_with fail
  refine (HW.out w1 HR1.out).mono ?_
  rintro e w2 ⟨rfl, hr2, ht2⟩
  have HR2 := Lib.hid hr2
  have HT2 := Lib.hid (HT1.out.trans ht2)
  clear hr2 ht2
  have HB2 := Lib.hid (HT2.out.blk HB0.out (fun e => by have := HLT.out.2 _ e.symm; omega) (by have := HLT.out.1; omega))
  have d0 := HB2.out.cell 0
  have d1 := HB2.out.cell 1
  have e0 := HB2.out.frozen 0
  have e1 := HB2.out.frozen 1
  go_wp2_with fail
  have k0 : ((w2.setCell ⟨W.heap.size, 0, none⟩ (.int .i64 x0)).setCell ⟨W.heap.size, 1, none⟩ (.int .i64 x1)).cell? ⟨W.heap.size, 0, none⟩ = some (.int .i64 x0) := ((HB2.out.stored 0 _).stored 1 _).cell 0
  have k1 : ((w2.setCell ⟨W.heap.size, 0, none⟩ (.int .i64 x0)).setCell ⟨W.heap.size, 1, none⟩ (.int .i64 x1)).cell? ⟨W.heap.size, 1, none⟩ = some (.int .i64 x1) := ((HB2.out.stored 0 _).stored 1 _).cell 1
  refine bodyPost_ret (v := .agg #[.int .i64 x0, .int .i64 x1]) (by simp [results, Tryz.results157, go_sem, k0, k1]) rfl ?_
  exact ⟨rfl, (HR2.out.put ⟨W.heap.size, 0, none⟩ _ HLT.out.1).put ⟨W.heap.size, 1, none⟩ _ HLT.out.1, ((HT0.out.trans HT2.out).high ⟨W.heap.size, 0, none⟩ _ (Nat.le_refl _)).high ⟨W.heap.size, 1, none⟩ _ (Nat.le_refl _)⟩

set_option maxHeartbeats 1000000 in
theorem frref_any (W : World) (P : Option Addr) (G : Option Nat) (o : Nat) (A : Option Addr) (c : Nat) (l : List UInt8) (q : Sw) (h : Rf9 W P G o A c l q) :
    Calls Tryz.prog 161 #[.pointer (some ⟨o, 0, none⟩)] W (TwAns W P G o A c l (.agg #[.int .i64 (rfV l q).1, .int .i64 (rfV l q).2.1, .bool (rfV l q).2.2]) (rfS l q)) := by
  obtain ⟨W0, hW0⟩ : ∃ W0, W.alloc (.cells #[.int .i64 0, .int .i64 0, .bool false] 82) = W0 := ⟨_, rfl⟩
  have HR0 := Lib.hid (show Rf9 W0 P G o A c l q from by rw [← hW0]; exact h.new _)
  have HB0 := Lib.hid (show Blk W0 W.heap.size 82 #[.int .i64 0, .int .i64 0, .bool false] from by rw [← hW0]; exact Blk.new W _ _)
  have HT0 := Lib.hid (show Tw G o W W0 from by rw [← hW0]; exact (Tw.refl G o W).new _)
  have HLT := Lib.hid (show o < W.heap.size ∧ ∀ g, G = some g → g < W.heap.size from ⟨h.bk.lt, fun g e => by have := h.lt g e; have := h.bk.lt; omega⟩)
  have HN := Lib.hid (fun W' (hh : Rf9 W' P G o A c l q) => frnum_any W' P G o A c l q hh)
  have HW := Lib.hid (fun W' (hh : Rf9 W' P G o A c l (wdS l q 1)) => frnum_any W' P G o A c l _ hh)
  have HF := Lib.hid (fun W' (hh : Rf9 W' P G o A c l (wdS l (wdS l q 1) 1)) => frflag_any W' P G o A c l _ hh)
  have HV := Lib.hid (show (rfV l q).1 = nvS l q 1 ∧ (rfV l q).2.1 = nvS l (wdS l q 1) 1 ∧ (rfV l q).2.2 = fgV l (wdS l (wdS l q 1) 1) ∧ rfS l q = fgS l (wdS l (wdS l q 1) 1) from ⟨rfl, rfl, rfl, rfl⟩)
  rw [HV.out.1, HV.out.2.1, HV.out.2.2.1, HV.out.2.2.2]
  generalize fgV l (wdS l (wdS l q 1) 1) = x2 at HF
  generalize fgS l (wdS l (wdS l q 1) 1) = q3 at HF
  generalize nvS l (wdS l q 1) 1 = x1 at HW
  generalize wdS l (wdS l q 1) 1 = q2 at HW HF
  generalize wdS l q 1 = q1 at HW HN
  generalize nvS l q 1 = x0 at HN
  clear h HV
  go_enter Tryz.func161, Tryz.ntmps161
  go_wp2_with fail
  clear hW0
  refine (HN.out W0 HR0.out).mono ?_
  rintro e w1 ⟨rfl, hr1, ht1⟩
  have HR1 := Lib.hid hr1
  have HT1 := Lib.hid ht1
  clear hr1 ht1
  go_wp2_with fail
  refine (HW.out w1 HR1.out).mono ?_
  rintro e w2 ⟨rfl, hr2, ht2⟩
  have HR2 := Lib.hid hr2
  have HT2 := Lib.hid (HT1.out.trans ht2)
  clear hr2 ht2
  go_wp2_with fail
  refine (HF.out w2 HR2.out).mono ?_
  rintro e w3 ⟨rfl, hr3, ht3⟩
  have HR3 := Lib.hid hr3
  have HT3 := Lib.hid (HT2.out.trans ht3)
  clear hr3 ht3
  have HB3 := Lib.hid (HT3.out.blk HB0.out (fun e => by have := HLT.out.2 _ e.symm; omega) (by have := HLT.out.1; omega))
  have d0 := HB3.out.cell 0
  have d1 := HB3.out.cell 1
  have d2 := HB3.out.cell 2
  have e0 := HB3.out.frozen 0
  have e1 := HB3.out.frozen 1
  have e2 := HB3.out.frozen 2
  go_wp2_with fail
  have HK := Lib.hid (blk3 (blk_put3 HB3.out (.int .i64 x0) (.int .i64 x1) (.bool x2)))
  obtain ⟨k0, k1, k2⟩ := HK.out
  refine bodyPost_ret (v := .agg #[.int .i64 x0, .int .i64 x1, .bool x2]) (by simp [results, Tryz.results161, go_sem, k0, k1, k2]) rfl ?_
  exact ⟨rfl, ((HR3.out.put ⟨W.heap.size, 0, none⟩ _ HLT.out.1).put ⟨W.heap.size, 1, none⟩ _ HLT.out.1).put ⟨W.heap.size, 2, none⟩ _ HLT.out.1, (((HT0.out.trans HT3.out).high ⟨W.heap.size, 0, none⟩ _ (Nat.le_refl _)).high ⟨W.heap.size, 1, none⟩ _ (Nat.le_refl _)).high ⟨W.heap.size, 2, none⟩ _ (Nat.le_refl _)⟩

theorem getO (W : World) (P : Option Addr) (G : Option Nat) (A : Option Addr) (c : Nat) (l : List UInt8) (q : Sw) (h : RdO W P G A c l q.1) (ht : Txs W) (h3 : ∀ g, G = some g → 3 ≤ g) :
    Calls Tryz.prog 229 #[.pointer P] W fun e w' => e = .returned (.tuple #[.agg #[.int .i64 (inV5 l q).1, .int .i64 (inV5 l q).2.1, .int .i64 (inV5 l q).2.2.1, .int .i64 (inV5 l q).2.2.2.1, .int .i64 (inV5 l q).2.2.2.2], .int .i64 (gotE l q.1.1 q.1.2)]) ∧ RdO w' P G A c l (pgS l q.1 8) ∧ W.grownBy w' G := by
  rw [← gotI_eq]
  rcases h with ⟨g, rfl, rfl, h⟩ | ⟨rfl, rfl, rfl, hs⟩
  · exact (get_any W g A c l q.1.1 q.1.2 h ht (h3 g rfl)).mono fun e w' hh => ⟨hh.1, .inl ⟨g, rfl, rfl, hh.2.1⟩, hh.2.2⟩
  · refine (getn_any W).mono fun e w' hh => ?_
    obtain ⟨rfl, hb⟩ := hh
    rw [hs]
    have hf : fitsB [] 0 false 8 = false := rfl
    refine ⟨?_, .inr ⟨rfl, rfl, rfl, by unfold pgS readP; rw [hf]; simp⟩, ⟨hb.os, hb.tape, hb.output, hb.size, fun k hk _ => hb.block k hk⟩⟩
    unfold gotI gotE
    rw [hf]; simp

set_option maxHeartbeats 2000000 in
theorem frinstr_any (W : World) (P : Option Addr) (G : Option Nat) (o : Nat) (A : Option Addr) (c : Nat) (l : List UInt8) (q : Sw) (h : Rf9 W P G o A c l q) (ht : Txs W) (h3 : ∀ g, G = some g → 3 ≤ g) (ho3 : 3 ≤ o) :
    Calls Tryz.prog 159 #[.pointer (some ⟨o, 0, none⟩)] W (TwAns W P G o A c l (.agg #[.int .i64 (inV5 l q).1, .int .i64 (inV5 l q).2.1, .int .i64 (inV5 l q).2.2.1, .int .i64 (inV5 l q).2.2.2.1, .int .i64 (inV5 l q).2.2.2.2]) (inS5 l q)) := by
  obtain ⟨W0, hW0⟩ : ∃ W0, W.alloc (.cells #[.int .i64 0, .int .i64 0, .int .i64 0, .int .i64 0, .int .i64 0] 94) = W0 := ⟨_, rfl⟩
  have HR0 := Lib.hid (show Rf9 W0 P G o A c l q from by rw [← hW0]; exact h.new _)
  have HB0 := Lib.hid (show Blk W0 W.heap.size 94 #[.int .i64 0, .int .i64 0, .int .i64 0, .int .i64 0, .int .i64 0] from by rw [← hW0]; exact Blk.new W _ _)
  have HT0 := Lib.hid (show Tw G o W W0 from by rw [← hW0]; exact (Tw.refl G o W).new _)
  have HX0 := Lib.hid (show Txs W0 from by rw [← hW0]; exact ht.below (alloc_ W _))
  have HLT := Lib.hid (show o < W.heap.size ∧ ∀ g, G = some g → g < W.heap.size from ⟨h.bk.lt, fun g e => by have := h.lt g e; have := h.bk.lt; omega⟩)
  have HG := Lib.hid (getO W0 P G A c l q HR0.out.rd HX0.out h3)
  have HM := Lib.hid (fun W' (hr : RdO W' P G A c l (pgS l q.1 8)) (hg : W0.grownBy W' G) => HR0.out.moved hr hg)
  have HTL := Lib.hid (fun W' (hh : Rf9 W' P G o A c l (pgS l q.1 8, q.2)) => ftell_any W' P G o A c l _ hh (gotE l q.1.1 q.1.2))
  have HS := Lib.hid (show inS5 l q = tlW (pgS l q.1 8, q.2) (gotE l q.1.1 q.1.2) from rfl)
  rw [HS.out]
  have c0 : W0.cell? ⟨o, 0, none⟩ = some (.pointer P) := HR0.out.bk.cell 0
  obtain ⟨x, hx⟩ : ∃ x, inV5 l q = x := ⟨_, rfl⟩
  rw [hx] at HG ⊢
  obtain ⟨x0, x1, x2, x3, x4⟩ := x
  dsimp only at HG ⊢
  have HGE := HG.out
  generalize tlW (pgS l q.1 8, q.2) (gotE l q.1.1 q.1.2) = q9 at HTL
  generalize gotE l q.1.1 q.1.2 = er at HG HTL
  generalize pgS l q.1 8 = s8 at HG HM HTL
  clear h hx HS HGE ht h3 ho3
  go_enter Tryz.func159, Tryz.ntmps159
  go_wp2_with fail
  clear hW0
  refine HG.out.mono ?_
  rintro e w1 ⟨rfl, hr1, hg1⟩
  have HR1 := Lib.hid (HM.out w1 hr1 hg1)
  have HT1 := Lib.hid (show Tw G o W0 w1 from Tw.only hg1)
  clear hr1 hg1
  obtain ⟨W2, hW2⟩ : ∃ W2, w1.alloc (.cells #[.int .i64 x0, .int .i64 x1, .int .i64 x2, .int .i64 x3, .int .i64 x4] 94) = W2 := ⟨_, rfl⟩
  have HR2 := Lib.hid (show Rf9 W2 P G o A c l (s8, q.2) from by rw [← hW2]; exact HR1.out.new _)
  have HT2 := Lib.hid (show Tw G o W0 W2 from by rw [← hW2]; exact HT1.out.new _)
  have HB2 := Lib.hid (show Blk W2 w1.heap.size 94 #[.int .i64 x0, .int .i64 x1, .int .i64 x2, .int .i64 x3, .int .i64 x4] from by rw [← hW2]; exact Blk.new w1 _ _)
  have HS1 := Lib.hid (show o < w1.heap.size ∧ ∀ g, G = some g → g < w1.heap.size from ⟨HR1.out.bk.lt, fun g e => by have := HR1.out.lt g e; have := HR1.out.bk.lt; omega⟩)
  go_wp2_with fail
  refine (HTL.out W2 HR2.out).mono ?_
  clear hW2
  rintro e w3 ⟨rfl, hr3, ht3⟩
  have HR3 := Lib.hid hr3
  have HT3 := Lib.hid (HT2.out.trans ht3)
  have HB3 := Lib.hid (ht3.blk HB2.out (fun e => by have := HS1.out.2 _ e.symm; omega) (by have := HS1.out.1; omega))
  clear hr3 ht3
  have HB4 := Lib.hid (HT3.out.blk HB0.out (fun e => by have := HLT.out.2 _ e.symm; omega) (by have := HLT.out.1; omega))
  have a0 := HB3.out.cell 0
  have a1 := HB3.out.cell 1
  have a2 := HB3.out.cell 2
  have a3 := HB3.out.cell 3
  have a4 := HB3.out.cell 4
  have d0 := HB4.out.cell 0
  have d1 := HB4.out.cell 1
  have d2 := HB4.out.cell 2
  have d3 := HB4.out.cell 3
  have d4 := HB4.out.cell 4
  have e0 := HB4.out.frozen 0
  have e1 := HB4.out.frozen 1
  have e2 := HB4.out.frozen 2
  have e3 := HB4.out.frozen 3
  have e4 := HB4.out.frozen 4
  go_wp2_with fail
  clear a0 a1 a2 a3 a4 d0 d1 d2 d3 d4 e0 e1 e2 e3 e4
  have HK := Lib.hid (((((HB4.out.stored 0 (.int .i64 x0)).stored 1 (.int .i64 x1)).stored 2 (.int .i64 x2)).stored 3 (.int .i64 x3)).stored 4 (.int .i64 x4))
  have k0 := HK.out.cell 0
  have k1 := HK.out.cell 1
  have k2 := HK.out.cell 2
  have k3 := HK.out.cell 3
  have k4 := HK.out.cell 4
  refine bodyPost_ret (v := .agg #[.int .i64 x0, .int .i64 x1, .int .i64 x2, .int .i64 x3, .int .i64 x4]) (by simp [results, Tryz.results159, go_sem, k0, k1, k2, k3, k4]) rfl ?_
  exact ⟨rfl, ((((HR3.out.put ⟨W.heap.size, 0, none⟩ _ HLT.out.1).put ⟨W.heap.size, 1, none⟩ _ HLT.out.1).put ⟨W.heap.size, 2, none⟩ _ HLT.out.1).put ⟨W.heap.size, 3, none⟩ _ HLT.out.1).put ⟨W.heap.size, 4, none⟩ _ HLT.out.1, (((((HT0.out.trans HT3.out).high ⟨W.heap.size, 0, none⟩ _ (Nat.le_refl _)).high ⟨W.heap.size, 1, none⟩ _ (Nat.le_refl _)).high ⟨W.heap.size, 2, none⟩ _ (Nat.le_refl _)).high ⟨W.heap.size, 3, none⟩ _ (Nat.le_refl _)).high ⟨W.heap.size, 4, none⟩ _ (Nat.le_refl _)⟩

def flLn (l : List Ln) : List Value := l.flatMap encLn
def flIn (l : List In5) : List Value := l.flatMap encIn
set_option maxRecDepth 100000 in
set_option maxHeartbeats 2000000 in
theorem sevK_any (W : World) (P : Option Addr) (G : Option Nat) (o : Nat) (A : Option Addr) (c : Nat) (l : List UInt8) (q : Sw) (h : Rf9 W P G o A c l q) :
    Calls Tryz.prog 153 #[.pointer (some ⟨o, 0, none⟩), .func (.func 152) #[.pointer (some ⟨o, 0, none⟩)] #[]] W fun e w' => ∃ v, e = .returned v ∧ w'.ownsRow W.heap.size 3 1 v (nvS l q 1).toNat (ints (vls (nmV1 l) (nmS1 l) (nvS l q 1).toNat (wdS l q 1))) ∧ Rf9 w' P G o A c l (itS (nmS1 l) (nvS l q 1).toNat (wdS l q 1)) ∧ Tw G o W w' := by
  obtain ⟨i0, hi, hz0, hz1, hz2⟩ := info_parts infoI
  have HN := Lib.hid (frnum_any W P G o A c l q h)
  have HF := Lib.hid (fun W' q' (hh : Rf9 W' P G o A c l q') => frnum_any W' P G o A c l q' hh)
  have HLT := Lib.hid (show o < W.heap.size ∧ ∀ g, G = some g → g < W.heap.size from ⟨h.bk.lt, fun g e => by have := h.lt g e; have := h.bk.lt; omega⟩)
  have HNO := num_one l q.1
  obtain ⟨N, hN⟩ : ∃ N, (nvS l q 1).toNat = N := ⟨_, rfl⟩
  have hNI : nvS l q 1 = (N : Int) := by have : 0 ≤ nvS l q 1 := HNO.1; omega
  have hNB : N ≤ 255 := by have : nvS l q 1 ≤ 255 := HNO.2; omega
  rw [hN]
  rw [hNI] at HN
  generalize wdS l q 1 = q1 at HN ⊢
  clear h hN hNI HNO
  go_enter Tryz.func153, Tryz.ntmps153
  go_wp2_with (go_at_call 152; refine HN.out.mono ?_; rintro e w1 ⟨rfl, hr1, ht1⟩; have HR1 := Lib.hid hr1; have HT1 := Lib.hid ht1; clear hr1 ht1)
  go_loopw [5, 8] (fun v i wr => ∃ k : Nat, k ≤ N ∧ i = .int .i64 (k : Int) ∧ wr.ownsRow W.heap.size 3 1 v k (ints (vls (nmV1 l) (nmS1 l) k q1)) ∧ Rf9 wr P G o A c l (itS (nmS1 l) k q1) ∧ Tw G o W wr) (fun _ i _ => N - (intOf i).toNat)
  case atStart => exact ⟨0, Nat.zero_le _, rfl, World.ownsRow_nil _ _ _ _, HR1.out, HT1.out⟩
  case round =>
    obtain ⟨k, hk, rfl, hown, hrw, htw⟩ := hrel
    have HOW := Lib.hid hown
    have HRW := Lib.hid hrw
    have HTW := Lib.hid htw

    by_cases hlt : k < N
    · have hkI : (k : Int) < (N : Int) := by omega
      have HFK := Lib.hid (HF.out wr _ hrw)
      have HVN := Lib.hid (vls_next (nmV1 l) (nmS1 l) k q1)
      have HSN := Lib.hid (show itS (nmS1 l) (k + 1) q1 = nmS1 l (itS (nmS1 l) k q1) from rfl)
      rw [show nmV1 l (itS (nmS1 l) k q1) = nvS l (itS (nmS1 l) k q1) 1 from rfl] at HVN
      rw [← show nmS1 l (itS (nmS1 l) k q1) = wdS l (itS (nmS1 l) k q1) 1 from rfl] at HFK
      generalize nvS l (itS (nmS1 l) k q1) 1 = x at HFK HVN
      clear hown hrw htw
      go_wp2_with (first
        | (go_at_call 152; refine HFK.out.mono ?_; rintro e w2 ⟨rfl, hr2, ht2⟩; have HR2 := Lib.hid hr2; have HT2 := Lib.hid ht2; clear hr2 ht2)
        | (at_builtin; go_loud (refine wpList_append_own _ rfl (.tmp 10) (.tmp 13) 22 rfl W.heap.size 3 i0 (.int .i64 0) 1 8 Tryz.underlying22 hi hz0 hz1 hz2 rfl (by decide) _ k (ints (vls (nmV1 l) (nmS1 l) k q1)) rfl (ownk_keep (HT2.out.own HOW.out HLT.out.2 HLT.out.1) fun gg hb hlt => Below.heap_alloc _ _ _ hlt) ⟨w2.heap.size, 0, none⟩ 1 1 [.int .i64 x] rfl rfl (fun j u hu => by rw [add_plain, Nat.zero_add]; exact ((Blk.new w2 3 #[.int .i64 x]).cell j).trans (by simpa using hu)) (by simp [Value.oneCell']) (by unfold maxLen; omega) (by omega) (by have := HTW.out.size; have := HT2.out.size; simp; omega) ?_; intro v' w4 h2 h3 _; have H2 := Lib.hid h2; have H3 := Lib.hid h3; clear h2 h3)))
      go_roundw
      case rel =>
        have hal : Tw G o wr (w2.alloc (.cells #[.int .i64 x] 3)) := HT2.out.new _
        refine ⟨k + 1, by omega, by go_num, ?_, ?_, ?_⟩
        · rw [HVN.out]
          have h2 := H2.out
          simpa [ints] using h2
        · rw [HSN.out]
          exact (HR2.out.new _).row H3.out fun x e => by have := (HOW.out.lt x e).1; have := HLT.out.1; omega
        · exact (HTW.out.trans hal).row H3.out fun x e => (HOW.out.lt x e).1
      case measure => simp [intOf]; omega
    · obtain rfl : k = N := by omega
      clear hown hrw htw
      go_wp2_with fail
      go_ret
      exact ⟨_, rfl, HOW.out, HRW.out, HTW.out⟩

set_option maxRecDepth 100000 in
set_option maxHeartbeats 2000000 in
theorem sevL_any (W : World) (P : Option Addr) (G : Option Nat) (o : Nat) (A : Option Addr) (c : Nat) (l : List UInt8) (q : Sw) (h : Rf9 W P G o A c l q) :
    Calls Tryz.prog 156 #[.pointer (some ⟨o, 0, none⟩), .func (.func 157) #[.pointer (some ⟨o, 0, none⟩)] #[]] W fun e w' => ∃ v, e = .returned v ∧ w'.ownsRow W.heap.size 85 2 v (nvS l q 1).toNat (flLn (vls (lnV l) (lnS l) (nvS l q 1).toNat (wdS l q 1))) ∧ Rf9 w' P G o A c l (itS (lnS l) (nvS l q 1).toNat (wdS l q 1)) ∧ Tw G o W w' := by
  obtain ⟨i0, hi, hz0, hz1, hz2⟩ := info_parts infoLn
  have HN := Lib.hid (frnum_any W P G o A c l q h)
  have HF := Lib.hid (fun W' q' (hh : Rf9 W' P G o A c l q') => frline_any W' P G o A c l q' hh)
  have HLT := Lib.hid (show o < W.heap.size ∧ ∀ g, G = some g → g < W.heap.size from ⟨h.bk.lt, fun g e => by have := h.lt g e; have := h.bk.lt; omega⟩)
  have HNO := num_one l q.1
  obtain ⟨N, hN⟩ : ∃ N, (nvS l q 1).toNat = N := ⟨_, rfl⟩
  have hNI : nvS l q 1 = (N : Int) := by have : 0 ≤ nvS l q 1 := HNO.1; omega
  have hNB : N ≤ 255 := by have : nvS l q 1 ≤ 255 := HNO.2; omega
  rw [hN]
  rw [hNI] at HN
  generalize wdS l q 1 = q1 at HN ⊢
  clear h hN hNI HNO
  go_enter Tryz.func156, Tryz.ntmps156
  go_wp2_with (go_at_call 152; refine HN.out.mono ?_; rintro e w1 ⟨rfl, hr1, ht1⟩; have HR1 := Lib.hid hr1; have HT1 := Lib.hid ht1; clear hr1 ht1)
  go_loopw [5, 8] (fun v i wr => ∃ k : Nat, k ≤ N ∧ i = .int .i64 (k : Int) ∧ wr.ownsRow W.heap.size 85 2 v k (flLn (vls (lnV l) (lnS l) k q1)) ∧ Rf9 wr P G o A c l (itS (lnS l) k q1) ∧ Tw G o W wr) (fun _ i _ => N - (intOf i).toNat)
  case atStart => exact ⟨0, Nat.zero_le _, rfl, World.ownsRow_nil _ _ _ _, HR1.out, HT1.out⟩
  case round =>
    obtain ⟨k, hk, rfl, hown, hrw, htw⟩ := hrel
    have HOW := Lib.hid hown
    have HRW := Lib.hid hrw
    have HTW := Lib.hid htw

    by_cases hlt : k < N
    · have hkI : (k : Int) < (N : Int) := by omega
      have HFK := Lib.hid (HF.out wr _ hrw)
      have HVN := Lib.hid (vls_next (lnV l) (lnS l) k q1)
      have HSN := Lib.hid (show itS (lnS l) (k + 1) q1 = lnS l (itS (lnS l) k q1) from rfl)
      generalize lnV l (itS (lnS l) k q1) = x at HFK HVN
      obtain ⟨x0, x1⟩ := x
      dsimp only at HFK
      clear hown hrw htw
      go_wp2_with (first
        | (go_at_call 157; refine HFK.out.mono ?_; rintro e w2 ⟨rfl, hr2, ht2⟩; have HR2 := Lib.hid hr2; have HT2 := Lib.hid ht2; clear hr2 ht2)
        | (at_builtin; go_loud (refine wpList_append_own _ rfl (.tmp 10) (.tmp 13) 23 rfl W.heap.size 85 i0 (.agg #[.int .i64 0, .int .i64 0]) 2 16 Tryz.underlying23 hi hz0 hz1 hz2 rfl (by decide) _ k (flLn (vls (lnV l) (lnS l) k q1)) rfl (ownk_keep (HT2.out.own HOW.out HLT.out.2 HLT.out.1) fun gg hb hlt => Below.heap_alloc _ _ _ hlt) ⟨w2.heap.size, 0, none⟩ 1 1 [.int .i64 x0, .int .i64 x1] rfl rfl (fun j u hu => by rw [add_plain, Nat.zero_add]; exact ((Blk.new w2 85 #[.int .i64 x0, .int .i64 x1]).cell j).trans (by simpa using hu)) (by simp [Value.oneCell']) (by unfold maxLen; omega) (by omega) (by have := HTW.out.size; have := HT2.out.size; simp; omega) ?_; intro v' w4 h2 h3 _; have H2 := Lib.hid h2; have H3 := Lib.hid h3; clear h2 h3)))
      go_roundw
      case rel =>
        have hal : Tw G o wr (w2.alloc (.cells #[.int .i64 x0, .int .i64 x1] 85)) := HT2.out.new _
        refine ⟨k + 1, by omega, by go_num, ?_, ?_, ?_⟩
        · rw [HVN.out]
          have h2 := H2.out
          simpa [flLn, encLn] using h2
        · rw [HSN.out]
          exact (HR2.out.new _).row H3.out fun x e => by have := (HOW.out.lt x e).1; have := HLT.out.1; omega
        · exact (HTW.out.trans hal).row H3.out fun x e => (HOW.out.lt x e).1
      case measure => simp [intOf]; omega
    · obtain rfl : k = N := by omega
      clear hown hrw htw
      go_wp2_with fail
      go_ret
      exact ⟨_, rfl, HOW.out, HRW.out, HTW.out⟩

set_option maxRecDepth 100000 in
set_option maxHeartbeats 2000000 in
theorem sevC_any (W : World) (P : Option Addr) (G : Option Nat) (o : Nat) (A : Option Addr) (c : Nat) (l : List UInt8) (q : Sw) (h : Rf9 W P G o A c l q) (ht : Txs W) (h3 : ∀ g, G = some g → 3 ≤ g) (ho3 : 3 ≤ o) :
    Calls Tryz.prog 158 #[.pointer (some ⟨o, 0, none⟩), .func (.func 159) #[.pointer (some ⟨o, 0, none⟩)] #[]] W fun e w' => ∃ v, e = .returned v ∧ w'.ownsRow W.heap.size 94 5 v (nvS l q 1).toNat (flIn (vls (inV5 l) (inS5 l) (nvS l q 1).toNat (wdS l q 1))) ∧ Rf9 w' P G o A c l (itS (inS5 l) (nvS l q 1).toNat (wdS l q 1)) ∧ Tw G o W w' := by
  obtain ⟨i0, hi, hz0, hz1, hz2⟩ := info_parts infoIn
  have HN := Lib.hid (frnum_any W P G o A c l q h)
  have HF := Lib.hid (fun W' q' (hh : Rf9 W' P G o A c l q') (ht : Txs W') => frinstr_any W' P G o A c l q' hh ht h3 ho3)
  have HLT := Lib.hid (show o < W.heap.size ∧ ∀ g, G = some g → g < W.heap.size from ⟨h.bk.lt, fun g e => by have := h.lt g e; have := h.bk.lt; omega⟩)
  have HX3 := Lib.hid (show (∀ g, G = some g → 3 ≤ g) ∧ 3 ≤ o from ⟨h3, ho3⟩)
  have HXW := Lib.hid ht
  have HNO := num_one l q.1
  obtain ⟨N, hN⟩ : ∃ N, (nvS l q 1).toNat = N := ⟨_, rfl⟩
  have hNI : nvS l q 1 = (N : Int) := by have : 0 ≤ nvS l q 1 := HNO.1; omega
  have hNB : N ≤ 255 := by have : nvS l q 1 ≤ 255 := HNO.2; omega
  rw [hN]
  rw [hNI] at HN
  generalize wdS l q 1 = q1 at HN ⊢
  clear h hN hNI HNO ht h3 ho3
  go_enter Tryz.func158, Tryz.ntmps158
  go_wp2_with (go_at_call 152; refine HN.out.mono ?_; rintro e w1 ⟨rfl, hr1, ht1⟩; have HR1 := Lib.hid hr1; have HT1 := Lib.hid ht1; clear hr1 ht1)
  go_loopw [5, 8] (fun v i wr => ∃ k : Nat, k ≤ N ∧ i = .int .i64 (k : Int) ∧ wr.ownsRow W.heap.size 94 5 v k (flIn (vls (inV5 l) (inS5 l) k q1)) ∧ Rf9 wr P G o A c l (itS (inS5 l) k q1) ∧ Tw G o W wr ∧ Txs wr) (fun _ i _ => N - (intOf i).toNat)
  case atStart => exact ⟨0, Nat.zero_le _, rfl, World.ownsRow_nil _ _ _ _, HR1.out, HT1.out, HXW.out.tw HT1.out HX3.out.1 HX3.out.2⟩
  case round =>
    obtain ⟨k, hk, rfl, hown, hrw, htw, htx⟩ := hrel
    have HOW := Lib.hid hown
    have HRW := Lib.hid hrw
    have HTW := Lib.hid htw
    have HTX := Lib.hid htx
    by_cases hlt : k < N
    · have hkI : (k : Int) < (N : Int) := by omega
      have HFK := Lib.hid (HF.out wr _ hrw htx)
      have HVN := Lib.hid (vls_next (inV5 l) (inS5 l) k q1)
      have HSN := Lib.hid (show itS (inS5 l) (k + 1) q1 = inS5 l (itS (inS5 l) k q1) from rfl)
      generalize inV5 l (itS (inS5 l) k q1) = x at HFK HVN
      obtain ⟨x0, x1, x2, x3, x4⟩ := x
      dsimp only at HFK
      clear hown hrw htw htx
      go_wp2_with (first
        | (go_at_call 159; refine HFK.out.mono ?_; rintro e w2 ⟨rfl, hr2, ht2⟩; have HR2 := Lib.hid hr2; have HT2 := Lib.hid ht2; clear hr2 ht2)
        | (at_builtin; go_loud (refine wpList_append_own _ rfl (.tmp 10) (.tmp 13) 24 rfl W.heap.size 94 i0 (.agg #[.int .i64 0, .int .i64 0, .int .i64 0, .int .i64 0, .int .i64 0]) 5 40 Tryz.underlying24 hi hz0 hz1 hz2 rfl (by decide) _ k (flIn (vls (inV5 l) (inS5 l) k q1)) rfl (ownk_keep (HT2.out.own HOW.out HLT.out.2 HLT.out.1) fun gg hb hlt => Below.heap_alloc _ _ _ hlt) ⟨w2.heap.size, 0, none⟩ 1 1 [.int .i64 x0, .int .i64 x1, .int .i64 x2, .int .i64 x3, .int .i64 x4] rfl rfl (fun j u hu => by rw [add_plain, Nat.zero_add]; exact ((Blk.new w2 94 #[.int .i64 x0, .int .i64 x1, .int .i64 x2, .int .i64 x3, .int .i64 x4]).cell j).trans (by simpa using hu)) (by simp [Value.oneCell']) (by unfold maxLen; omega) (by omega) (by have := HTW.out.size; have := HT2.out.size; simp; omega) ?_; intro v' w4 h2 h3 _; have H2 := Lib.hid h2; have H3 := Lib.hid h3; clear h2 h3)))
      go_roundw
      case rel =>
        have hal : Tw G o wr (w2.alloc (.cells #[.int .i64 x0, .int .i64 x1, .int .i64 x2, .int .i64 x3, .int .i64 x4] 94)) := HT2.out.new _
        refine ⟨k + 1, by omega, by go_num, ?_, ?_, ?_, ?_⟩
        · rw [HVN.out]
          have h2 := H2.out
          simpa [flIn, encIn] using h2
        · rw [HSN.out]
          exact (HR2.out.new _).row H3.out fun x e => by have := (HOW.out.lt x e).1; have := HLT.out.1; omega
        · exact (HTW.out.trans hal).row H3.out fun x e => (HOW.out.lt x e).1
        · exact (HTX.out.tw hal HX3.out.1 HX3.out.2).row H3.out fun x e => by have := (HOW.out.lt x e).1; have := HLT.out.1; have := HX3.out.2; omega
      case measure => simp [intOf]; omega
    · obtain rfl : k = N := by omega
      clear hown hrw htw htx
      go_wp2_with fail
      go_ret
      exact ⟨_, rfl, HOW.out, HRW.out, HTW.out⟩

set_option maxRecDepth 100000 in
set_option maxHeartbeats 2000000 in
theorem sevR_any (W : World) (P : Option Addr) (G : Option Nat) (o : Nat) (A : Option Addr) (c : Nat) (l : List UInt8) (q : Sw) (h : Rf9 W P G o A c l q) :
    Calls Tryz.prog 160 #[.pointer (some ⟨o, 0, none⟩), .func (.func 161) #[.pointer (some ⟨o, 0, none⟩)] #[]] W fun e w' => ∃ v, e = .returned v ∧ w'.ownsRow W.heap.size 82 3 v (nvS l q 1).toNat (flRl (vls (rfV l) (rfS l) (nvS l q 1).toNat (wdS l q 1))) ∧ Rf9 w' P G o A c l (itS (rfS l) (nvS l q 1).toNat (wdS l q 1)) ∧ Tw G o W w' := by
  obtain ⟨i0, hi, hz0, hz1, hz2⟩ := info_parts infoRl
  have HN := Lib.hid (frnum_any W P G o A c l q h)
  have HF := Lib.hid (fun W' q' (hh : Rf9 W' P G o A c l q') => frref_any W' P G o A c l q' hh)
  have HLT := Lib.hid (show o < W.heap.size ∧ ∀ g, G = some g → g < W.heap.size from ⟨h.bk.lt, fun g e => by have := h.lt g e; have := h.bk.lt; omega⟩)
  have HNO := num_one l q.1
  obtain ⟨N, hN⟩ : ∃ N, (nvS l q 1).toNat = N := ⟨_, rfl⟩
  have hNI : nvS l q 1 = (N : Int) := by have : 0 ≤ nvS l q 1 := HNO.1; omega
  have hNB : N ≤ 255 := by have : nvS l q 1 ≤ 255 := HNO.2; omega
  rw [hN]
  rw [hNI] at HN
  generalize wdS l q 1 = q1 at HN ⊢
  clear h hN hNI HNO
  go_enter Tryz.func160, Tryz.ntmps160
  go_wp2_with (go_at_call 152; refine HN.out.mono ?_; rintro e w1 ⟨rfl, hr1, ht1⟩; have HR1 := Lib.hid hr1; have HT1 := Lib.hid ht1; clear hr1 ht1)
  go_loopw [5, 8] (fun v i wr => ∃ k : Nat, k ≤ N ∧ i = .int .i64 (k : Int) ∧ wr.ownsRow W.heap.size 82 3 v k (flRl (vls (rfV l) (rfS l) k q1)) ∧ Rf9 wr P G o A c l (itS (rfS l) k q1) ∧ Tw G o W wr) (fun _ i _ => N - (intOf i).toNat)
  case atStart => exact ⟨0, Nat.zero_le _, rfl, World.ownsRow_nil _ _ _ _, HR1.out, HT1.out⟩
  case round =>
    obtain ⟨k, hk, rfl, hown, hrw, htw⟩ := hrel
    have HOW := Lib.hid hown
    have HRW := Lib.hid hrw
    have HTW := Lib.hid htw

    by_cases hlt : k < N
    · have hkI : (k : Int) < (N : Int) := by omega
      have HFK := Lib.hid (HF.out wr _ hrw)
      have HVN := Lib.hid (vls_next (rfV l) (rfS l) k q1)
      have HSN := Lib.hid (show itS (rfS l) (k + 1) q1 = rfS l (itS (rfS l) k q1) from rfl)
      generalize rfV l (itS (rfS l) k q1) = x at HFK HVN
      obtain ⟨x0, x1, x2⟩ := x
      dsimp only at HFK
      clear hown hrw htw
      go_wp2_with (first
        | (go_at_call 161; refine HFK.out.mono ?_; rintro e w2 ⟨rfl, hr2, ht2⟩; have HR2 := Lib.hid hr2; have HT2 := Lib.hid ht2; clear hr2 ht2)
        | (at_builtin; go_loud (refine wpList_append_own _ rfl (.tmp 10) (.tmp 13) 25 rfl W.heap.size 82 i0 (.agg #[.int .i64 0, .int .i64 0, .bool false]) 3 24 Tryz.underlying25 hi hz0 hz1 hz2 rfl (by decide) _ k (flRl (vls (rfV l) (rfS l) k q1)) rfl (ownk_keep (HT2.out.own HOW.out HLT.out.2 HLT.out.1) fun gg hb hlt => Below.heap_alloc _ _ _ hlt) ⟨w2.heap.size, 0, none⟩ 1 1 [.int .i64 x0, .int .i64 x1, .bool x2] rfl rfl (fun j u hu => by rw [add_plain, Nat.zero_add]; exact ((Blk.new w2 82 #[.int .i64 x0, .int .i64 x1, .bool x2]).cell j).trans (by simpa using hu)) (by simp [Value.oneCell']) (by unfold maxLen; omega) (by omega) (by have := HTW.out.size; have := HT2.out.size; simp; omega) ?_; intro v' w4 h2 h3 _; have H2 := Lib.hid h2; have H3 := Lib.hid h3; clear h2 h3)))
      go_roundw
      case rel =>
        have hal : Tw G o wr (w2.alloc (.cells #[.int .i64 x0, .int .i64 x1, .bool x2] 82)) := HT2.out.new _
        refine ⟨k + 1, by omega, by go_num, ?_, ?_, ?_⟩
        · rw [HVN.out]
          have h2 := H2.out
          simpa [flRl, encRl] using h2
        · rw [HSN.out]
          exact (HR2.out.new _).row H3.out fun x e => by have := (HOW.out.lt x e).1; have := HLT.out.1; omega
        · exact (HTW.out.trans hal).row H3.out fun x e => (HOW.out.lt x e).1
      case measure => simp [intOf]; omega
    · obtain rfl : k = N := by omega
      clear hown hrw htw
      go_wp2_with fail
      go_ret
      exact ⟨_, rfl, HOW.out, HRW.out, HTW.out⟩

end Go.Proofs.YtbknmapkdjmcjaaGreatDoor.By

namespace Go.Proofs.YtbknmapkdjmcjaaGreatDoor.By
open Go.RowKit
open Mem Gm Rf
set_option linter.unusedSimpArgs false
set_option linter.unusedVariables false

def sevS (f : List UInt8 → Sw → Sw) (l : List UInt8) (q : Sw) : Sw := itS (f l) (nvS l q 1).toNat (wdS l q 1)
def sevV {α : Type} (v : List UInt8 → Sw → α) (f : List UInt8 → Sw → Sw) (l : List UInt8) (q : Sw) : List α := vls (v l) (f l) (nvS l q 1).toNat (wdS l q 1)
noncomputable def fq1 (l : List UInt8) (q : Sw) : Sw := wdS l q 1
noncomputable def fq2 (l : List UInt8) (q : Sw) : Sw := sevS nmS1 l (fq1 l q)
noncomputable def fq3 (l : List UInt8) (q : Sw) : Sw := wdS l (fq2 l q) 2
noncomputable def fq4 (l : List UInt8) (q : Sw) : Sw := fgS l (fq3 l q)
noncomputable def fq5 (l : List UInt8) (q : Sw) : Sw := wdS l (fq4 l q) 1
noncomputable def fq6 (l : List UInt8) (q : Sw) : Sw := wdS l (fq5 l q) 1
noncomputable def fq7 (l : List UInt8) (q : Sw) : Sw := sevS lnS l (fq6 l q)
noncomputable def fq8 (l : List UInt8) (q : Sw) : Sw := sevS inS5 l (fq7 l q)
noncomputable def fq9 (l : List UInt8) (q : Sw) : Sw := sevS rfS l (fq8 l q)
/-- The function that is read, whatever was wrong. -/
noncomputable def fuV (l : List UInt8) (q : Sw) : Fn :=
  ⟨nvS l q 1, sevV nmV1 nmS1 l (fq1 l q), nvS l (fq2 l q) 2, fgV l (fq3 l q), nvS l (fq4 l q) 1, nvS l (fq5 l q) 1, sevV lnV lnS l (fq6 l q), sevV inV5 inS5 l (fq7 l q), sevV rfV rfS l (fq8 l q)⟩

/-- The function's fields as they come to lie, and what is answered. -/
structure Fz (W : World) (G : Option Nat) (o : Nat) (w : World) (cs : Array Value) : Prop where
  fb : Blk w (W.heap.size + 1) 27 cs
  rb : Blk w W.heap.size 27 #[.int .i64 0, .slice none 0 0, .int .i64 0, .bool false, .int .i64 0, .int .i64 0, .slice none 0 0, .slice none 0 0, .slice none 0 0]
  tw : Tw G o W w
  lt : o < W.heap.size ∧ ∀ g, G = some g → g < W.heap.size
theorem Fz.on {W w w' : World} {G : Option Nat} {o : Nat} {cs : Array Value} (h : Fz W G o w cs) (k : Tw G o w w') : Fz W G o w' cs :=
  ⟨k.blk h.fb (fun e => by have := h.lt.2 _ e.symm; omega) (by have := h.lt.1; omega), k.blk h.rb (fun e => by have := h.lt.2 _ e.symm; omega) (by have := h.lt.1; omega), h.tw.trans k, h.lt⟩
theorem Fz.set {W w : World} {G : Option Nat} {o : Nat} {cs : Array Value} (h : Fz W G o w cs) (i : Nat) (u : Value) : Fz W G o (w.setCell ⟨W.heap.size + 1, i, none⟩ u) (cs.set! i u) :=
  ⟨h.fb.stored i u, blk_away h.rb ⟨W.heap.size + 1, i, none⟩ u (by show W.heap.size ≠ W.heap.size + 1; omega), h.tw.high ⟨W.heap.size + 1, i, none⟩ u (by show W.heap.size ≤ W.heap.size + 1; omega), h.lt⟩
theorem Rf9.setF {W w : World} {P : Option Addr} {G : Option Nat} {o : Nat} {A : Option Addr} {c : Nat} {l : List UInt8} {q : Sw} (h : Rf9 w P G o A c l q) (ho : o < W.heap.size) (i : Nat) (u : Value) : Rf9 (w.setCell ⟨W.heap.size + 1, i, none⟩ u) P G o A c l q :=
  h.put ⟨W.heap.size + 1, i, none⟩ u (by show o < W.heap.size + 1; omega)
/-- A list of the call's own, above all else. -/
def Ow9 (W : World) (G : Option Nat) (o : Nat) (w : World) (E : TypeId) (k : Nat) (v : Value) (n : Nat) (xs : List Value) : Prop :=
  ∃ B, w.ownsRow B E k v n xs ∧ W.heap.size + 1 < B ∧ o < B ∧ ∀ g, G = some g → g < B
theorem Ow9.on {W w w' : World} {G : Option Nat} {o k n : Nat} {E : TypeId} {v : Value} {xs : List Value} (h : Ow9 W G o w E k v n xs) (t : Tw G o w w') : Ow9 W G o w' E k v n xs := by
  obtain ⟨B, h1, h2, h3, h4⟩ := h
  exact ⟨B, t.own h1 h4 h3, h2, h3, h4⟩
theorem Ow9.setF {W w : World} {G : Option Nat} {o k n : Nat} {E : TypeId} {v : Value} {xs : List Value} (h : Ow9 W G o w E k v n xs) (i : Nat) (u : Value) : Ow9 W G o (w.setCell ⟨W.heap.size + 1, i, none⟩ u) E k v n xs := by
  obtain ⟨B, h1, h2, h3, h4⟩ := h
  exact ⟨B, ownk_keep h1 fun gg hb _ => Below.heap_setCell w ⟨W.heap.size + 1, i, none⟩ u gg (by show gg ≠ W.heap.size + 1; omega), h2, h3, h4⟩
theorem Ow9.setR {W w : World} {G : Option Nat} {o k n : Nat} {E : TypeId} {v : Value} {xs : List Value} (h : Ow9 W G o w E k v n xs) (i : Nat) (u : Value) : Ow9 W G o (w.setCell ⟨W.heap.size, i, none⟩ u) E k v n xs := by
  obtain ⟨B, h1, h2, h3, h4⟩ := h
  exact ⟨B, ownk_keep h1 fun gg hb _ => Below.heap_setCell w ⟨W.heap.size, i, none⟩ u gg (by show gg ≠ W.heap.size; omega), h2, h3, h4⟩
theorem Ow9.of {W w w' : World} {G : Option Nat} {o k n : Nat} {E : TypeId} {v : Value} {xs : List Value} {cs : Array Value} (z : Fz W G o w cs) (h : w'.ownsRow w.heap.size E k v n xs) : Ow9 W G o w' E k v n xs :=
  ⟨_, h, z.fb.lt, by have := z.fb.lt; have := z.lt.1; omega, fun g e => by have := z.fb.lt; have := z.lt.2 g e; omega⟩
theorem Txs.setF {W w : World} (h : Txs w) (h3 : 3 ≤ W.heap.size) (i : Nat) (u : Value) : Txs (w.setCell ⟨W.heap.size + 1, i, none⟩ u) :=
  h.row (r := some (W.heap.size + 1)) (only_set (only_refl w (W.heap.size + 1)) i u) fun x e => by injection e; omega
theorem blk9f {w : World} {g : Nat} {t : TypeId} {cs : Array Value} (h : Blk w g t cs) : w.frozen? ⟨g, 0, none⟩ = false ∧ w.frozen? ⟨g, 1, none⟩ = false ∧ w.frozen? ⟨g, 2, none⟩ = false ∧ w.frozen? ⟨g, 3, none⟩ = false ∧ w.frozen? ⟨g, 4, none⟩ = false ∧ w.frozen? ⟨g, 5, none⟩ = false ∧ w.frozen? ⟨g, 6, none⟩ = false ∧ w.frozen? ⟨g, 7, none⟩ = false ∧ w.frozen? ⟨g, 8, none⟩ = false :=
  ⟨h.frozen 0, h.frozen 1, h.frozen 2, h.frozen 3, h.frozen 4, h.frozen 5, h.frozen 6, h.frozen 7, h.frozen 8⟩
/-- A world with nine cells set. -/
def set9 (w : World) (g : Nat) (a0 a1 a2 a3 a4 a5 a6 a7 a8 : Value) : World := ((((((((w.setCell ⟨g, 0, none⟩ a0).setCell ⟨g, 1, none⟩ a1).setCell ⟨g, 2, none⟩ a2).setCell ⟨g, 3, none⟩ a3).setCell ⟨g, 4, none⟩ a4).setCell ⟨g, 5, none⟩ a5).setCell ⟨g, 6, none⟩ a6).setCell ⟨g, 7, none⟩ a7).setCell ⟨g, 8, none⟩ a8
theorem blk_set9 {w : World} {g : Nat} {t : TypeId} (a0 a1 a2 a3 a4 a5 a6 a7 a8 : Value) (h : Blk w g t #[.int .i64 0, .slice none 0 0, .int .i64 0, .bool false, .int .i64 0, .int .i64 0, .slice none 0 0, .slice none 0 0, .slice none 0 0]) : Blk (set9 w g a0 a1 a2 a3 a4 a5 a6 a7 a8) g t #[a0, a1, a2, a3, a4, a5, a6, a7, a8] := by
  have h0 : Blk (w.setCell ⟨g, 0, none⟩ a0) g t #[a0, .slice none 0 0, .int .i64 0, .bool false, .int .i64 0, .int .i64 0, .slice none 0 0, .slice none 0 0, .slice none 0 0] := h.stored 0 a0
  have h1 : Blk ((w.setCell ⟨g, 0, none⟩ a0).setCell ⟨g, 1, none⟩ a1) g t #[a0, a1, .int .i64 0, .bool false, .int .i64 0, .int .i64 0, .slice none 0 0, .slice none 0 0, .slice none 0 0] := h0.stored 1 a1
  have h2 : Blk (((w.setCell ⟨g, 0, none⟩ a0).setCell ⟨g, 1, none⟩ a1).setCell ⟨g, 2, none⟩ a2) g t #[a0, a1, a2, .bool false, .int .i64 0, .int .i64 0, .slice none 0 0, .slice none 0 0, .slice none 0 0] := h1.stored 2 a2
  have h3 : Blk ((((w.setCell ⟨g, 0, none⟩ a0).setCell ⟨g, 1, none⟩ a1).setCell ⟨g, 2, none⟩ a2).setCell ⟨g, 3, none⟩ a3) g t #[a0, a1, a2, a3, .int .i64 0, .int .i64 0, .slice none 0 0, .slice none 0 0, .slice none 0 0] := h2.stored 3 a3
  have h4 : Blk (((((w.setCell ⟨g, 0, none⟩ a0).setCell ⟨g, 1, none⟩ a1).setCell ⟨g, 2, none⟩ a2).setCell ⟨g, 3, none⟩ a3).setCell ⟨g, 4, none⟩ a4) g t #[a0, a1, a2, a3, a4, .int .i64 0, .slice none 0 0, .slice none 0 0, .slice none 0 0] := h3.stored 4 a4
  have h5 : Blk ((((((w.setCell ⟨g, 0, none⟩ a0).setCell ⟨g, 1, none⟩ a1).setCell ⟨g, 2, none⟩ a2).setCell ⟨g, 3, none⟩ a3).setCell ⟨g, 4, none⟩ a4).setCell ⟨g, 5, none⟩ a5) g t #[a0, a1, a2, a3, a4, a5, .slice none 0 0, .slice none 0 0, .slice none 0 0] := h4.stored 5 a5
  have h6 : Blk (((((((w.setCell ⟨g, 0, none⟩ a0).setCell ⟨g, 1, none⟩ a1).setCell ⟨g, 2, none⟩ a2).setCell ⟨g, 3, none⟩ a3).setCell ⟨g, 4, none⟩ a4).setCell ⟨g, 5, none⟩ a5).setCell ⟨g, 6, none⟩ a6) g t #[a0, a1, a2, a3, a4, a5, a6, .slice none 0 0, .slice none 0 0] := h5.stored 6 a6
  have h7 : Blk ((((((((w.setCell ⟨g, 0, none⟩ a0).setCell ⟨g, 1, none⟩ a1).setCell ⟨g, 2, none⟩ a2).setCell ⟨g, 3, none⟩ a3).setCell ⟨g, 4, none⟩ a4).setCell ⟨g, 5, none⟩ a5).setCell ⟨g, 6, none⟩ a6).setCell ⟨g, 7, none⟩ a7) g t #[a0, a1, a2, a3, a4, a5, a6, a7, .slice none 0 0] := h6.stored 7 a7
  have h8 : Blk (((((((((w.setCell ⟨g, 0, none⟩ a0).setCell ⟨g, 1, none⟩ a1).setCell ⟨g, 2, none⟩ a2).setCell ⟨g, 3, none⟩ a3).setCell ⟨g, 4, none⟩ a4).setCell ⟨g, 5, none⟩ a5).setCell ⟨g, 6, none⟩ a6).setCell ⟨g, 7, none⟩ a7).setCell ⟨g, 8, none⟩ a8) g t #[a0, a1, a2, a3, a4, a5, a6, a7, a8] := h7.stored 8 a8
  exact h8
theorem set9_heap (w : World) (g k : Nat) (hk : k ≠ g) (a0 a1 a2 a3 a4 a5 a6 a7 a8 : Value) : (set9 w g a0 a1 a2 a3 a4 a5 a6 a7 a8).heap[k]? = w.heap[k]? := by
  unfold set9
  rw [Below.heap_setCell _ ⟨g, 8, none⟩ a8 k hk, Below.heap_setCell _ ⟨g, 7, none⟩ a7 k hk, Below.heap_setCell _ ⟨g, 6, none⟩ a6 k hk, Below.heap_setCell _ ⟨g, 5, none⟩ a5 k hk, Below.heap_setCell _ ⟨g, 4, none⟩ a4 k hk, Below.heap_setCell _ ⟨g, 3, none⟩ a3 k hk, Below.heap_setCell _ ⟨g, 2, none⟩ a2 k hk, Below.heap_setCell _ ⟨g, 1, none⟩ a1 k hk, Below.heap_setCell _ ⟨g, 0, none⟩ a0 k hk]
theorem set9_size (w : World) (g : Nat) (a0 a1 a2 a3 a4 a5 a6 a7 a8 : Value) : (set9 w g a0 a1 a2 a3 a4 a5 a6 a7 a8).heap.size = w.heap.size := by
  unfold set9; simp [World.setCell]
theorem set9_only (w : World) (g : Nat) (a0 a1 a2 a3 a4 a5 a6 a7 a8 : Value) : w.grownBy (set9 w g a0 a1 a2 a3 a4 a5 a6 a7 a8) (some g) :=
  only_set (only_set (only_set (only_set (only_set (only_set (only_set (only_set (only_set (only_refl w g) 0 a0) 1 a1) 2 a2) 3 a3) 4 a4) 5 a5) 6 a6) 7 a7) 8 a8
/-- What the reader's function answers: its lists are new ones. -/
def FnA (W : World) (P : Option Addr) (G : Option Nat) (o : Nat) (A : Option Addr) (c : Nat) (l : List UInt8) (x : Fn) (q : Sw) (e : Ending) (w' : World) : Prop :=
  ∃ vK vL vC vR, e = .returned (.agg #[.int .i64 x.k, vK, .int .i64 x.pd, .bool x.ns, .int .i64 x.f, .int .i64 x.t, vL, vC, vR]) ∧
    Ow9 W G o w' 3 1 vK x.ks.length (ints x.ks) ∧ Ow9 W G o w' 85 2 vL x.ls.length (flLn x.ls) ∧ Ow9 W G o w' 94 5 vC x.cs.length (flIn x.cs) ∧ Ow9 W G o w' 82 3 vR x.rs.length (flRl x.rs) ∧ Rf9 w' P G o A c l q ∧ Tw G o W w'

set_option maxRecDepth 100000 in
set_option maxHeartbeats 8000000 in
theorem frfun_any (W : World) (P : Option Addr) (G : Option Nat) (o : Nat) (A : Option Addr) (c : Nat) (l : List UInt8) (q : Sw) (h : Rf9 W P G o A c l q) (ht : Txs W) (h3 : ∀ g, G = some g → 3 ≤ g) (ho3 : 3 ≤ o) :
    Calls Tryz.prog 84 #[.pointer (some ⟨o, 0, none⟩)] W (FnA W P G o A c l (fuV l q) (fq9 l q)) := by
  obtain ⟨W0, hW0⟩ : ∃ W0, (W.alloc (.cells #[.int .i64 0, .slice none 0 0, .int .i64 0, .bool false, .int .i64 0, .int .i64 0, .slice none 0 0, .slice none 0 0, .slice none 0 0] 27)).alloc (.cells #[.int .i64 0, .slice none 0 0, .int .i64 0, .bool false, .int .i64 0, .int .i64 0, .slice none 0 0, .slice none 0 0, .slice none 0 0] 27) = W0 := ⟨_, rfl⟩
  have HLT := Lib.hid (show o < W.heap.size ∧ ∀ g, G = some g → g < W.heap.size from ⟨h.bk.lt, fun g e => by have := h.lt g e; have := h.bk.lt; omega⟩)
  have HR0 := Lib.hid (show Rf9 W0 P G o A c l q from by rw [← hW0]; exact (h.new _).new _)
  have HZ0 := Lib.hid (show Fz W G o W0 #[.int .i64 0, .slice none 0 0, .int .i64 0, .bool false, .int .i64 0, .int .i64 0, .slice none 0 0, .slice none 0 0, .slice none 0 0] from by
    rw [← hW0]
    refine ⟨?_, (Blk.new W _ _).alloc _, ((Tw.refl G o W).new _).new _, HLT.out⟩
    have := Blk.new (W.alloc (.cells #[.int .i64 0, .slice none 0 0, .int .i64 0, .bool false, .int .i64 0, .int .i64 0, .slice none 0 0, .slice none 0 0, .slice none 0 0] 27)) 27 #[.int .i64 0, .slice none 0 0, .int .i64 0, .bool false, .int .i64 0, .int .i64 0, .slice none 0 0, .slice none 0 0, .slice none 0 0]
    rwa [World.size_alloc] at this)
  have HX0 := Lib.hid (show Txs W0 from by rw [← hW0]; exact (ht.below (alloc_ W _)).below (alloc_ _ _))
  have HXC := Lib.hid (show (∀ g, G = some g → 3 ≤ g) ∧ 3 ≤ o from ⟨h3, ho3⟩)
  have H3W := Lib.hid (show 3 ≤ W.heap.size from by have := h.bk.lt; omega)
  have C1 := Lib.hid (fun W' (hh : Rf9 W' P G o A c l q) => frnum_any W' P G o A c l q hh)
  have C2 := Lib.hid (fun W' (hh : Rf9 W' P G o A c l (fq1 l q)) => sevK_any W' P G o A c l _ hh)
  have C3 := Lib.hid (fun W' (hh : Rf9 W' P G o A c l (fq2 l q)) => fwide_any W' P G o A c l _ hh 2)
  have C4 := Lib.hid (fun W' (hh : Rf9 W' P G o A c l (fq3 l q)) => frflag_any W' P G o A c l _ hh)
  have C5 := Lib.hid (fun W' (hh : Rf9 W' P G o A c l (fq4 l q)) => frnum_any W' P G o A c l _ hh)
  have C6 := Lib.hid (fun W' (hh : Rf9 W' P G o A c l (fq5 l q)) => frnum_any W' P G o A c l _ hh)
  have C7 := Lib.hid (fun W' (hh : Rf9 W' P G o A c l (fq6 l q)) => sevL_any W' P G o A c l _ hh)
  have C8 := Lib.hid (fun W' (hh : Rf9 W' P G o A c l (fq7 l q)) (hx : Txs W') => sevC_any W' P G o A c l _ hh hx HXC.out.1 HXC.out.2)
  have C9 := Lib.hid (fun W' (hh : Rf9 W' P G o A c l (fq8 l q)) => sevR_any W' P G o A c l _ hh)
  have e1 : wdS l q 1 = fq1 l q := rfl
  have e2 : itS (nmS1 l) (nvS l (fq1 l q) 1).toNat (wdS l (fq1 l q) 1) = fq2 l q := rfl
  have e3 : wdS l (fq2 l q) 2 = fq3 l q := rfl
  have e4 : fgS l (fq3 l q) = fq4 l q := rfl
  have e5 : wdS l (fq4 l q) 1 = fq5 l q := rfl
  have e6 : wdS l (fq5 l q) 1 = fq6 l q := rfl
  have e7 : itS (lnS l) (nvS l (fq6 l q) 1).toNat (wdS l (fq6 l q) 1) = fq7 l q := rfl
  have e8 : itS (inS5 l) (nvS l (fq7 l q) 1).toNat (wdS l (fq7 l q) 1) = fq8 l q := rfl
  have e9 : itS (rfS l) (nvS l (fq8 l q) 1).toNat (wdS l (fq8 l q) 1) = fq9 l q := rfl
  have hfv : fuV l q = ⟨nvS l q 1, vls (nmV1 l) (nmS1 l) (nvS l (fq1 l q) 1).toNat (wdS l (fq1 l q) 1), nvS l (fq2 l q) 2, fgV l (fq3 l q), nvS l (fq4 l q) 1, nvS l (fq5 l q) 1, vls (lnV l) (lnS l) (nvS l (fq6 l q) 1).toNat (wdS l (fq6 l q) 1), vls (inV5 l) (inS5 l) (nvS l (fq7 l q) 1).toNat (wdS l (fq7 l q) 1), vls (rfV l) (rfS l) (nvS l (fq8 l q) 1).toNat (wdS l (fq8 l q) 1)⟩ := rfl
  have L2 := vls_len (nmV1 l) (nmS1 l) (nvS l (fq1 l q) 1).toNat (wdS l (fq1 l q) 1)
  have L7 := vls_len (lnV l) (lnS l) (nvS l (fq6 l q) 1).toNat (wdS l (fq6 l q) 1)
  have L8 := vls_len (inV5 l) (inS5 l) (nvS l (fq7 l q) 1).toNat (wdS l (fq7 l q) 1)
  have L9 := vls_len (rfV l) (rfS l) (nvS l (fq8 l q) 1).toNat (wdS l (fq8 l q) 1)
  rw [e1] at C1
  rw [e2] at C2
  rw [e3] at C3
  rw [e4] at C4
  rw [e5] at C5
  rw [e6] at C6
  rw [e7] at C7
  rw [e8] at C8
  rw [e9] at C9
  clear e1 e2 e3 e4 e5 e6 e7 e8 e9
  rw [hfv]
  clear hfv
  generalize vls (nmV1 l) (nmS1 l) (nvS l (fq1 l q) 1).toNat (wdS l (fq1 l q) 1) = ks at C2 L2 ⊢
  generalize (nvS l (fq1 l q) 1).toNat = nK at C2 L2
  generalize vls (lnV l) (lnS l) (nvS l (fq6 l q) 1).toNat (wdS l (fq6 l q) 1) = ls at C7 L7 ⊢
  generalize (nvS l (fq6 l q) 1).toNat = nL at C7 L7
  generalize vls (inV5 l) (inS5 l) (nvS l (fq7 l q) 1).toNat (wdS l (fq7 l q) 1) = cs at C8 L8 ⊢
  generalize (nvS l (fq7 l q) 1).toNat = nC at C8 L8
  generalize vls (rfV l) (rfS l) (nvS l (fq8 l q) 1).toNat (wdS l (fq8 l q) 1) = rs at C9 L9 ⊢
  generalize (nvS l (fq8 l q) 1).toNat = nR at C9 L9
  generalize nvS l q 1 = k0 at C1 ⊢
  generalize nvS l (fq2 l q) 2 = pd at C3 ⊢
  generalize fgV l (fq3 l q) = ns at C4 ⊢
  generalize nvS l (fq4 l q) 1 = f0 at C5 ⊢
  generalize nvS l (fq5 l q) 1 = t0 at C6 ⊢
  generalize fq1 l q = q1 at C1 C2
  generalize fq2 l q = q2 at C2 C3
  generalize fq3 l q = q3 at C3 C4
  generalize fq4 l q = q4 at C4 C5
  generalize fq5 l q = q5 at C5 C6
  generalize fq6 l q = q6 at C6 C7
  generalize fq7 l q = q7 at C7 C8
  generalize fq8 l q = q8 at C8 C9
  generalize fq9 l q = q9 at C9 ⊢
  have HLL := Lib.hid (show ks.length = nK ∧ ls.length = nL ∧ cs.length = nC ∧ rs.length = nR from ⟨L2, L7, L8, L9⟩)
  clear L2 L7 L8 L9
  clear h ht h3 ho3
  go_enter Tryz.func84, Tryz.ntmps84
  go_wp2_with fail
  clear hW0
  refine (C1.out W0 HR0.out).mono ?_
  rintro e w1 ⟨rfl, hr1, ht1⟩
  have HR1 := Lib.hid hr1
  have HZ1 := Lib.hid (HZ0.out.on ht1)
  have HX1 := Lib.hid (HX0.out.tw ht1 HXC.out.1 HXC.out.2)
  clear hr1 ht1
  go_wp2_with fail
  refine (C2.out w1 HR1.out).mono ?_
  rintro e w2 ⟨vK, rfl, ho2, hr2, ht2⟩
  obtain ⟨AvK, cvK, rfl⟩ := own_formW ho2
  have HR2 := Lib.hid hr2
  have HZ2 := Lib.hid (HZ1.out.on ht2)
  have HX2 := Lib.hid (HX1.out.tw ht2 HXC.out.1 HXC.out.2)
  have HOvK2 := Lib.hid (Ow9.of HZ1.out ho2)
  clear hr2 ht2 ho2
  obtain ⟨w3, hw3⟩ : ∃ x, ((w2.setCell ⟨W.heap.size + 1, 0, none⟩ (.int .i64 k0)).setCell ⟨W.heap.size + 1, 1, none⟩ (.slice AvK nK cvK)) = x := ⟨_, rfl⟩
  have d0 := HZ2.out.fb.cell 0
  have f0 := HZ2.out.fb.frozen 0
  have d1 := HZ2.out.fb.cell 1
  have f1 := HZ2.out.fb.frozen 1
  have HR3 := Lib.hid (show Rf9 w3 P G o A c l _ from by rw [← hw3]; exact ((HR2.out.setF HLT.out.1 0 (.int .i64 k0)).setF HLT.out.1 1 (.slice AvK nK cvK)))
  have HZ3 := Lib.hid (show Fz W G o w3 #[.int .i64 k0, .slice AvK nK cvK, .int .i64 0, .bool false, .int .i64 0, .int .i64 0, .slice none 0 0, .slice none 0 0, .slice none 0 0] from by rw [← hw3]; exact ((HZ2.out.set 0 (.int .i64 k0)).set 1 (.slice AvK nK cvK)))
  have HX3 := Lib.hid (show Txs w3 from by rw [← hw3]; exact ((HX2.out.setF H3W.out 0 (.int .i64 k0)).setF H3W.out 1 (.slice AvK nK cvK)))
  have HOvK3 := Lib.hid (show Ow9 W G o w3 _ _ _ _ _ from by rw [← hw3]; exact ((HOvK2.out.setF 0 (.int .i64 k0)).setF 1 (.slice AvK nK cvK)))
  go_wp2_with fail
  clear hw3 d0 f0 d1 f1
  refine (C3.out w3 HR3.out).mono ?_
  rintro e w4 ⟨rfl, hr4, ht4⟩
  have HR4 := Lib.hid hr4
  have HZ4 := Lib.hid (HZ3.out.on ht4)
  have HX4 := Lib.hid (HX3.out.tw ht4 HXC.out.1 HXC.out.2)
  have HOvK4 := Lib.hid (HOvK3.out.on ht4)
  clear hr4 ht4
  go_wp2_with fail
  refine (C4.out w4 HR4.out).mono ?_
  rintro e w5 ⟨rfl, hr5, ht5⟩
  have HR5 := Lib.hid hr5
  have HZ5 := Lib.hid (HZ4.out.on ht5)
  have HX5 := Lib.hid (HX4.out.tw ht5 HXC.out.1 HXC.out.2)
  have HOvK5 := Lib.hid (HOvK4.out.on ht5)
  clear hr5 ht5
  obtain ⟨w6, hw6⟩ : ∃ x, ((w5.setCell ⟨W.heap.size + 1, 2, none⟩ (.int .i64 pd)).setCell ⟨W.heap.size + 1, 3, none⟩ (.bool ns)) = x := ⟨_, rfl⟩
  have d2 := HZ5.out.fb.cell 2
  have f2 := HZ5.out.fb.frozen 2
  have d3 := HZ5.out.fb.cell 3
  have f3 := HZ5.out.fb.frozen 3
  have HR6 := Lib.hid (show Rf9 w6 P G o A c l _ from by rw [← hw6]; exact ((HR5.out.setF HLT.out.1 2 (.int .i64 pd)).setF HLT.out.1 3 (.bool ns)))
  have HZ6 := Lib.hid (show Fz W G o w6 #[.int .i64 k0, .slice AvK nK cvK, .int .i64 pd, .bool ns, .int .i64 0, .int .i64 0, .slice none 0 0, .slice none 0 0, .slice none 0 0] from by rw [← hw6]; exact ((HZ5.out.set 2 (.int .i64 pd)).set 3 (.bool ns)))
  have HX6 := Lib.hid (show Txs w6 from by rw [← hw6]; exact ((HX5.out.setF H3W.out 2 (.int .i64 pd)).setF H3W.out 3 (.bool ns)))
  have HOvK6 := Lib.hid (show Ow9 W G o w6 _ _ _ _ _ from by rw [← hw6]; exact ((HOvK5.out.setF 2 (.int .i64 pd)).setF 3 (.bool ns)))
  go_wp2_with fail
  clear hw6 d2 f2 d3 f3
  refine (C5.out w6 HR6.out).mono ?_
  rintro e w7 ⟨rfl, hr7, ht7⟩
  have HR7 := Lib.hid hr7
  have HZ7 := Lib.hid (HZ6.out.on ht7)
  have HX7 := Lib.hid (HX6.out.tw ht7 HXC.out.1 HXC.out.2)
  have HOvK7 := Lib.hid (HOvK6.out.on ht7)
  clear hr7 ht7
  go_wp2_with fail
  refine (C6.out w7 HR7.out).mono ?_
  rintro e w8 ⟨rfl, hr8, ht8⟩
  have HR8 := Lib.hid hr8
  have HZ8 := Lib.hid (HZ7.out.on ht8)
  have HX8 := Lib.hid (HX7.out.tw ht8 HXC.out.1 HXC.out.2)
  have HOvK8 := Lib.hid (HOvK7.out.on ht8)
  clear hr8 ht8
  obtain ⟨w9, hw9⟩ : ∃ x, ((w8.setCell ⟨W.heap.size + 1, 4, none⟩ (.int .i64 f0)).setCell ⟨W.heap.size + 1, 5, none⟩ (.int .i64 t0)) = x := ⟨_, rfl⟩
  have d4 := HZ8.out.fb.cell 4
  have f4 := HZ8.out.fb.frozen 4
  have d5 := HZ8.out.fb.cell 5
  have f5 := HZ8.out.fb.frozen 5
  have HR9 := Lib.hid (show Rf9 w9 P G o A c l _ from by rw [← hw9]; exact ((HR8.out.setF HLT.out.1 4 (.int .i64 f0)).setF HLT.out.1 5 (.int .i64 t0)))
  have HZ9 := Lib.hid (show Fz W G o w9 #[.int .i64 k0, .slice AvK nK cvK, .int .i64 pd, .bool ns, .int .i64 f0, .int .i64 t0, .slice none 0 0, .slice none 0 0, .slice none 0 0] from by rw [← hw9]; exact ((HZ8.out.set 4 (.int .i64 f0)).set 5 (.int .i64 t0)))
  have HX9 := Lib.hid (show Txs w9 from by rw [← hw9]; exact ((HX8.out.setF H3W.out 4 (.int .i64 f0)).setF H3W.out 5 (.int .i64 t0)))
  have HOvK9 := Lib.hid (show Ow9 W G o w9 _ _ _ _ _ from by rw [← hw9]; exact ((HOvK8.out.setF 4 (.int .i64 f0)).setF 5 (.int .i64 t0)))
  go_wp2_with fail
  clear hw9 d4 f4 d5 f5
  refine (C7.out w9 HR9.out).mono ?_
  rintro e w10 ⟨vL, rfl, ho10, hr10, ht10⟩
  obtain ⟨AvL, cvL, rfl⟩ := own_formW ho10
  have HR10 := Lib.hid hr10
  have HZ10 := Lib.hid (HZ9.out.on ht10)
  have HX10 := Lib.hid (HX9.out.tw ht10 HXC.out.1 HXC.out.2)
  have HOvK10 := Lib.hid (HOvK9.out.on ht10)
  have HOvL10 := Lib.hid (Ow9.of HZ9.out ho10)
  clear hr10 ht10 ho10
  obtain ⟨w11, hw11⟩ : ∃ x, (w10.setCell ⟨W.heap.size + 1, 6, none⟩ (.slice AvL nL cvL)) = x := ⟨_, rfl⟩
  have d6 := HZ10.out.fb.cell 6
  have f6 := HZ10.out.fb.frozen 6
  have HR11 := Lib.hid (show Rf9 w11 P G o A c l _ from by rw [← hw11]; exact (HR10.out.setF HLT.out.1 6 (.slice AvL nL cvL)))
  have HZ11 := Lib.hid (show Fz W G o w11 #[.int .i64 k0, .slice AvK nK cvK, .int .i64 pd, .bool ns, .int .i64 f0, .int .i64 t0, .slice AvL nL cvL, .slice none 0 0, .slice none 0 0] from by rw [← hw11]; exact (HZ10.out.set 6 (.slice AvL nL cvL)))
  have HX11 := Lib.hid (show Txs w11 from by rw [← hw11]; exact (HX10.out.setF H3W.out 6 (.slice AvL nL cvL)))
  have HOvK11 := Lib.hid (show Ow9 W G o w11 _ _ _ _ _ from by rw [← hw11]; exact (HOvK10.out.setF 6 (.slice AvL nL cvL)))
  have HOvL11 := Lib.hid (show Ow9 W G o w11 _ _ _ _ _ from by rw [← hw11]; exact (HOvL10.out.setF 6 (.slice AvL nL cvL)))
  go_wp2_with fail
  clear hw11 d6 f6
  refine (C8.out w11 HR11.out HX11.out).mono ?_
  rintro e w12 ⟨vC, rfl, ho12, hr12, ht12⟩
  obtain ⟨AvC, cvC, rfl⟩ := own_formW ho12
  have HR12 := Lib.hid hr12
  have HZ12 := Lib.hid (HZ11.out.on ht12)
  have HX12 := Lib.hid (HX11.out.tw ht12 HXC.out.1 HXC.out.2)
  have HOvK12 := Lib.hid (HOvK11.out.on ht12)
  have HOvL12 := Lib.hid (HOvL11.out.on ht12)
  have HOvC12 := Lib.hid (Ow9.of HZ11.out ho12)
  clear hr12 ht12 ho12
  obtain ⟨w13, hw13⟩ : ∃ x, (w12.setCell ⟨W.heap.size + 1, 7, none⟩ (.slice AvC nC cvC)) = x := ⟨_, rfl⟩
  have d7 := HZ12.out.fb.cell 7
  have f7 := HZ12.out.fb.frozen 7
  have HR13 := Lib.hid (show Rf9 w13 P G o A c l _ from by rw [← hw13]; exact (HR12.out.setF HLT.out.1 7 (.slice AvC nC cvC)))
  have HZ13 := Lib.hid (show Fz W G o w13 #[.int .i64 k0, .slice AvK nK cvK, .int .i64 pd, .bool ns, .int .i64 f0, .int .i64 t0, .slice AvL nL cvL, .slice AvC nC cvC, .slice none 0 0] from by rw [← hw13]; exact (HZ12.out.set 7 (.slice AvC nC cvC)))
  have HX13 := Lib.hid (show Txs w13 from by rw [← hw13]; exact (HX12.out.setF H3W.out 7 (.slice AvC nC cvC)))
  have HOvK13 := Lib.hid (show Ow9 W G o w13 _ _ _ _ _ from by rw [← hw13]; exact (HOvK12.out.setF 7 (.slice AvC nC cvC)))
  have HOvL13 := Lib.hid (show Ow9 W G o w13 _ _ _ _ _ from by rw [← hw13]; exact (HOvL12.out.setF 7 (.slice AvC nC cvC)))
  have HOvC13 := Lib.hid (show Ow9 W G o w13 _ _ _ _ _ from by rw [← hw13]; exact (HOvC12.out.setF 7 (.slice AvC nC cvC)))
  go_wp2_with fail
  clear hw13 d7 f7
  refine (C9.out w13 HR13.out).mono ?_
  rintro e w14 ⟨vR, rfl, ho14, hr14, ht14⟩
  obtain ⟨AvR, cvR, rfl⟩ := own_formW ho14
  have HR14 := Lib.hid hr14
  have HZ14 := Lib.hid (HZ13.out.on ht14)
  have HX14 := Lib.hid (HX13.out.tw ht14 HXC.out.1 HXC.out.2)
  have HOvK14 := Lib.hid (HOvK13.out.on ht14)
  have HOvL14 := Lib.hid (HOvL13.out.on ht14)
  have HOvC14 := Lib.hid (HOvC13.out.on ht14)
  have HOvR14 := Lib.hid (Ow9.of HZ13.out ho14)
  clear hr14 ht14 ho14
  obtain ⟨w15, hw15⟩ : ∃ x, w14.setCell ⟨W.heap.size + 1, 8, none⟩ (.slice AvR nR cvR) = x := ⟨_, rfl⟩
  have d8 := HZ14.out.fb.cell 8
  have f8 := HZ14.out.fb.frozen 8
  have HR15 := Lib.hid (show Rf9 w15 P G o A c l _ from by rw [← hw15]; exact HR14.out.setF HLT.out.1 8 (.slice AvR nR cvR))
  have HZ15 := Lib.hid (show Fz W G o w15 #[.int .i64 k0, .slice AvK nK cvK, .int .i64 pd, .bool ns, .int .i64 f0, .int .i64 t0, .slice AvL nL cvL, .slice AvC nC cvC, .slice AvR nR cvR] from by rw [← hw15]; exact HZ14.out.set 8 (.slice AvR nR cvR))
  have HOvK15 := Lib.hid (show Ow9 W G o w15 _ _ _ _ _ from by rw [← hw15]; exact HOvK14.out.setF 8 (.slice AvR nR cvR))
  have HOvL15 := Lib.hid (show Ow9 W G o w15 _ _ _ _ _ from by rw [← hw15]; exact HOvL14.out.setF 8 (.slice AvR nR cvR))
  have HOvC15 := Lib.hid (show Ow9 W G o w15 _ _ _ _ _ from by rw [← hw15]; exact HOvC14.out.setF 8 (.slice AvR nR cvR))
  have HOvR15 := Lib.hid (show Ow9 W G o w15 _ _ _ _ _ from by rw [← hw15]; exact HOvR14.out.setF 8 (.slice AvR nR cvR))
  obtain ⟨a0, a1, a2, a3, a4, a5, a6, a7, a8⟩ := blk9 HZ15.out.fb
  obtain ⟨b0, b1, b2, b3, b4, b5, b6, b7, b8⟩ := blk9 HZ15.out.rb
  obtain ⟨g0, g1, g2, g3, g4, g5, g6, g7, g8⟩ := blk9f HZ15.out.rb
  go_wp2_with fail
  clear hw15 d8 f8 a0 a1 a2 a3 a4 a5 a6 a7 a8 b0 b1 b2 b3 b4 b5 b6 b7 b8 g0 g1 g2 g3 g4 g5 g6 g7 g8
  have HK := Lib.hid (blk_set9 (.int .i64 k0) (.slice AvK nK cvK) (.int .i64 pd) (.bool ns) (.int .i64 f0) (.int .i64 t0) (.slice AvL nL cvL) (.slice AvC nC cvC) (.slice AvR nR cvR) HZ15.out.rb)
  have HON := Lib.hid (set9_only w15 W.heap.size (.int .i64 k0) (.slice AvK nK cvK) (.int .i64 pd) (.bool ns) (.int .i64 f0) (.int .i64 t0) (.slice AvL nL cvL) (.slice AvC nC cvC) (.slice AvR nR cvR))
  obtain ⟨W9, hW9⟩ : ∃ x, set9 w15 W.heap.size (.int .i64 k0) (.slice AvK nK cvK) (.int .i64 pd) (.bool ns) (.int .i64 f0) (.int .i64 t0) (.slice AvL nL cvL) (.slice AvC nC cvC) (.slice AvR nR cvR) = x := ⟨_, rfl⟩
  rw [hW9] at HK HON
  unfold set9 at hW9
  rw [hW9]
  obtain ⟨k0', k1, k2, k3, k4, k5, k6, k7, k8⟩ := blk9 HK.out
  refine bodyPost_ret (v := .agg #[.int .i64 k0, .slice AvK nK cvK, .int .i64 pd, .bool ns, .int .i64 f0, .int .i64 t0, .slice AvL nL cvL, .slice AvC nC cvC, .slice AvR nR cvR]) (by simp [results, Tryz.results84, go_sem, k0', k1, k2, k3, k4, k5, k6, k7, k8]) rfl ?_
  obtain ⟨m1, m2, m3, m4⟩ := HLL.out
  have hkeep : ∀ (E : TypeId) (k : Nat) (v : Value) (n : Nat) (xs : List Value), Ow9 W G o w15 E k v n xs → Ow9 W G o W9 E k v n xs := fun E k v n xs hh => by
    obtain ⟨B, y1, y2, y3, y4⟩ := hh
    exact ⟨B, ownk_keep y1 fun gg hb hlt => HON.out.block gg hlt (fun e => by injection e; omega), y2, y3, y4⟩
  refine ⟨_, _, _, _, rfl, ?_, ?_, ?_, ?_, HR15.out.row HON.out (fun x e => by injection e with e; have := HLT.out.1; omega), HZ15.out.tw.row HON.out (fun x e => by injection e; omega)⟩
  · rw [m1]; exact hkeep _ _ _ _ _ HOvK15.out
  · rw [m2]; exact hkeep _ _ _ _ _ HOvL15.out
  · rw [m3]; exact hkeep _ _ _ _ _ HOvC15.out
  · rw [m4]; exact hkeep _ _ _ _ _ HOvR15.out
end Go.Proofs.YtbknmapkdjmcjaaGreatDoor.By

namespace Go.Proofs.YtbknmapkdjmcjaaGreatDoor.By
open Go.RowKit
open Mem Gm Rf
set_option linter.unusedSimpArgs false
set_option linter.unusedVariables false

def fn0 : Fn := ⟨0, [], 0, false, 0, 0, [], [], []⟩
noncomputable def geV (l : List UInt8) (s : Std) : Fn := if (fq9 l (s, 0)).2 = 0 then fuV l (s, 0) else fn0
noncomputable def geE (l : List UInt8) (s : Std) : Int := (fq9 l (s, 0)).2
noncomputable def geS (l : List UInt8) (s : Std) : Std := (fq9 l (s, 0)).1
/-- A function that is answered, and how the reader stands. -/
def GfA (d : Fn) (er : Int) (st : Std) (w : World) (P : Option Addr) (G : Option Nat) (A : Option Addr) (c : Nat) (l : List UInt8) (e : Ending) (w' : World) : Prop :=
  ∃ AK cK AL cL AC cC AR cR, e = .returned (.tuple #[.agg #[.int .i64 d.k, .slice AK d.ks.length cK, .int .i64 d.pd, .bool d.ns, .int .i64 d.f, .int .i64 d.t, .slice AL d.ls.length cL, .slice AC d.cs.length cC, .slice AR d.rs.length cR], .int .i64 er]) ∧
    FnW w' AK d.ks.length cK AL d.ls.length cL AC d.cs.length cC AR d.rs.length cR d ∧ RdO w' P G A c l st ∧ w.grownBy w' G
theorem encLn_len (x : Ln) : (encLn x).length = 2 := rfl
theorem encIn_len (x : In5) : (encIn x).length = 5 := rfl
theorem wd_own_at {α : Type} {k : Nat} {enc : α → List Value} {w : World} {B n : Nat} {e : TypeId} {A : Option Addr} {c m : Nat} {l : List α} (hk : ∀ x, (enc x).length = k) (hl : l.length = n) (h : w.ownsRow B e k (.slice A m c) n (l.flatMap enc)) : Wd k enc w w.heap.size A n c l := by
  obtain ⟨A', c', e1, h2⟩ := wd_own hk hl h
  injection e1 with e1 e2 e3
  subst e1 e3
  exact h2
theorem slice_len {w : World} {B n k : Nat} {e : TypeId} {A : Option Addr} {c m : Nat} {xs : List Value} (h : w.ownsRow B e k (.slice A m c) n xs) : m = n := by
  obtain ⟨A', c', e1⟩ := own_formW h
  injection e1
/-- From two blocks turned, one of them new, to one. -/
theorem only_of_tw {w w1 w2 : World} {G : Option Nat} {o : Nat} (h : Tw G o w1 w2) (hb : Below w.heap.size w w1) (ho : w.heap.size ≤ o) : w.grownBy w2 G :=
  ⟨h.os.trans hb.os, h.tape.trans hb.tape, h.output.trans hb.output, Nat.le_trans hb.size h.size, fun k hk hne => (h.block k (Nat.lt_of_lt_of_le hk hb.size) hne (by omega)).trans (hb.block k hk)⟩

theorem set9_keeps {w W0 W2 : World} {P : Option Addr} {G : Option Nat} {A : Option Addr} {c : Nat} {l : List UInt8} {s9 : Std} {y : Int} (hR : Rf9 W2 P G (w.heap.size + 1) A c l (s9, y)) (hT : Tw G (w.heap.size + 1) W0 W2) (hB : Below w.heap.size w W0) (hZ : Blk W2 w.heap.size 27 #[.int .i64 0, .slice none 0 0, .int .i64 0, .bool false, .int .i64 0, .int .i64 0, .slice none 0 0, .slice none 0 0, .slice none 0 0]) (hG : ∀ g, G = some g → 3 ≤ g ∧ g < w.heap.size) (v0 v1 v2 v3 v4 v5 v6 v7 v8 : Value) (W9 : World) (hh : set9 W2 w.heap.size v0 v1 v2 v3 v4 v5 v6 v7 v8 = W9) :
    RdO W9 P G A c l s9 ∧ w.grownBy W9 G ∧ Blk W9 w.heap.size 27 #[v0, v1, v2, v3, v4, v5, v6, v7, v8] ∧ W2.grownBy W9 (some w.heap.size) := by
  have hon := set9_only W2 w.heap.size v0 v1 v2 v3 v4 v5 v6 v7 v8
  rw [hh] at hon
  refine ⟨?_, ?_, by rw [← hh]; exact blk_set9 v0 v1 v2 v3 v4 v5 v6 v7 v8 hZ, hon⟩
  · exact hR.rd.below (B := w.heap.size) (below_grown hon (fun r e => by injection e; omega) (by have := hZ.lt; omega)) (fun g e => (hG g e).2)
  · have h9 := only_of_tw hT hB (by omega)
    exact ⟨hon.os.trans h9.os, hon.tape.trans h9.tape, hon.output.trans h9.output, Nat.le_trans h9.size hon.size, fun k hk hne => (hon.block k (Nat.lt_of_lt_of_le hk h9.size) (fun e => by injection e; omega)).trans (h9.block k hk hne)⟩

set_option maxRecDepth 100000 in
set_option maxHeartbeats 8000000 in
theorem getF_any (w : World) (P : Option Addr) (G : Option Nat) (A : Option Addr) (c : Nat) (l : List UInt8) (s : Std) (h : RdO w P G A c l s) (ht : Txs w) (h3 : ∀ g, G = some g → 3 ≤ g ∧ g < w.heap.size) (hw3 : 3 ≤ w.heap.size) :
    Calls Tryz.prog 25 #[.pointer P] w (GfA (geV l s) (geE l s) (geS l s) w P G A c l) := by
  obtain ⟨W0, hW0⟩ : ∃ W0, (w.alloc (.cells #[.int .i64 0, .slice none 0 0, .int .i64 0, .bool false, .int .i64 0, .int .i64 0, .slice none 0 0, .slice none 0 0, .slice none 0 0] 27)).alloc (.cells #[.pointer P, .int .i64 0] 107) = W0 := ⟨_, rfl⟩
  have HB0 := Lib.hid (show Below w.heap.size w W0 from by rw [← hW0]; exact to_ (alloc_ _ _) (alloc_ _ _))
  have HS0 := Lib.hid (show W0.heap.size = w.heap.size + 2 from by rw [← hW0]; simp)
  have HR0 := Lib.hid (show Rf9 W0 P G (w.heap.size + 1) A c l (s, 0) from ⟨h.below HB0.out (fun g e => (h3 g e).2), by rw [← hW0]; have := Blk.new (w.alloc (.cells #[.int .i64 0, .slice none 0 0, .int .i64 0, .bool false, .int .i64 0, .int .i64 0, .slice none 0 0, .slice none 0 0, .slice none 0 0] 27)) 107 #[.pointer P, .int .i64 0]; rwa [World.size_alloc] at this, fun g e => by have := (h3 g e).2; omega⟩)
  have HZ0 := Lib.hid (show Blk W0 w.heap.size 27 #[.int .i64 0, .slice none 0 0, .int .i64 0, .bool false, .int .i64 0, .int .i64 0, .slice none 0 0, .slice none 0 0, .slice none 0 0] from by rw [← hW0]; exact (Blk.new w _ _).alloc _)
  have HF := Lib.hid (frfun_any W0 P G (w.heap.size + 1) A c l (s, 0) HR0.out (ht.below HB0.out) (fun g e => (h3 g e).1) (by omega))
  have HG3 := Lib.hid h3
  have HGV := Lib.hid (show geV l s = if (fq9 l (s, 0)).2 = 0 then fuV l (s, 0) else fn0 from rfl)
  have HGE := Lib.hid (show geE l s = (fq9 l (s, 0)).2 from rfl)
  have HGS := Lib.hid (show geS l s = (fq9 l (s, 0)).1 from rfl)
  generalize fq9 l (s, 0) = q9 at HF HGV HGE HGS
  generalize fuV l (s, 0) = x at HF HGV
  obtain ⟨s9, y⟩ := q9
  dsimp only at HGV HGE HGS
  rw [HGV.out, HGE.out, HGS.out]
  clear h ht h3 hw3 HGV HGE HGS
  by_cases hy : y = 0
  · subst hy
    rw [if_pos rfl]
    go_enter Tryz.func25, Tryz.ntmps25
    go_wp2_with fail
    clear hW0
    refine HF.out.mono ?_
    rintro e w1 ⟨vK, vL, vC, vR, rfl, hK, hL, hC, hR, hr1, ht1⟩
    obtain ⟨BK, hK, jK, _, _⟩ := hK
    obtain ⟨BL, hL, jL, _, _⟩ := hL
    obtain ⟨BC, hC, jC, _, _⟩ := hC
    obtain ⟨BR, hR, jR, _, _⟩ := hR
    obtain ⟨AK, cK, rfl⟩ := own_formW hK
    obtain ⟨AL, cL, rfl⟩ := own_formW hL
    obtain ⟨AC, cC, rfl⟩ := own_formW hC
    obtain ⟨AR, cR, rfl⟩ := own_formW hR
    have HR1 := Lib.hid hr1
    have HT1 := Lib.hid ht1
    have HZ1 := Lib.hid (ht1.blk HZ0.out (fun e => by have := (HG3.out _ e.symm).2; omega) (by omega))
    clear hr1 ht1
    obtain ⟨k0, ks, pd, ns, f0, t0, ls, cs, rs⟩ := x
    dsimp only at hK hL hC hR ⊢
    obtain ⟨nK, hnK⟩ : ∃ n, ks.length = n := ⟨_, rfl⟩
    obtain ⟨nL, hnL⟩ : ∃ n, ls.length = n := ⟨_, rfl⟩
    obtain ⟨nC, hnC⟩ : ∃ n, cs.length = n := ⟨_, rfl⟩
    obtain ⟨nR, hnR⟩ : ∃ n, rs.length = n := ⟨_, rfl⟩
    rw [hnK] at hK ⊢
    rw [hnL] at hL ⊢
    rw [hnC] at hC ⊢
    rw [hnR] at hR ⊢
    have HRW := Lib.hid (show (∃ B, w1.ownsRow B 3 1 (.slice AK nK cK) nK (ints ks) ∧ w.heap.size < B) ∧ (∃ B, w1.ownsRow B 85 2 (.slice AL nL cL) nL (flLn ls) ∧ w.heap.size < B) ∧ (∃ B, w1.ownsRow B 94 5 (.slice AC nC cC) nC (flIn cs) ∧ w.heap.size < B) ∧ (∃ B, w1.ownsRow B 82 3 (.slice AR nR cR) nR (flRl rs) ∧ w.heap.size < B) from
      ⟨⟨BK, hK, by have := HS0.out; omega⟩, ⟨BL, hL, by have := HS0.out; omega⟩, ⟨BC, hC, by have := HS0.out; omega⟩, ⟨BR, hR, by have := HS0.out; omega⟩⟩)
    have HNN := Lib.hid (show ks.length = nK ∧ ls.length = nL ∧ cs.length = nC ∧ rs.length = nR from ⟨hnK, hnL, hnC, hnR⟩)
    clear hnK hnL hnC hnR hK hL hC hR jK jL jC jR
    obtain ⟨W2, hW2⟩ : ∃ W2, w1.alloc (.cells #[.int .i64 k0, .slice AK nK cK, .int .i64 pd, .bool ns, .int .i64 f0, .int .i64 t0, .slice AL nL cL, .slice AC nC cC, .slice AR nR cR] 27) = W2 := ⟨_, rfl⟩
    have HR2 := Lib.hid (show Rf9 W2 P G (w.heap.size + 1) A c l (s9, _) from by rw [← hW2]; exact HR1.out.new _)
    have HT2 := Lib.hid (show Tw G (w.heap.size + 1) W0 W2 from by rw [← hW2]; exact HT1.out.new _)
    have HZ2 := Lib.hid (show Blk W2 w.heap.size 27 #[.int .i64 0, .slice none 0 0, .int .i64 0, .bool false, .int .i64 0, .int .i64 0, .slice none 0 0, .slice none 0 0, .slice none 0 0] from by rw [← hW2]; exact HZ1.out.alloc _)
    have HB2 := Lib.hid (show Blk W2 w1.heap.size 27 #[.int .i64 k0, .slice AK nK cK, .int .i64 pd, .bool ns, .int .i64 f0, .int .i64 t0, .slice AL nL cL, .slice AC nC cC, .slice AR nR cR] from by rw [← hW2]; exact Blk.new w1 _ _)
    have HA2 := Lib.hid (show ∀ gg, gg < w1.heap.size → W2.heap[gg]? = w1.heap[gg]? from fun gg hg => by rw [← hW2]; exact Below.heap_alloc _ _ _ hg)
    have HS2 := Lib.hid (show w1.heap.size ≤ W2.heap.size from by rw [← hW2]; simp)
    have cw : W2.cell? ⟨w.heap.size + 1, 1, none⟩ = some (.int .i64 _) := HR2.out.bk.cell 1
    obtain ⟨b0, b1, b2, b3, b4, b5, b6, b7, b8⟩ := blk9 HZ2.out
    obtain ⟨g0, g1, g2, g3, g4, g5, g6, g7, g8⟩ := blk9f HZ2.out
    obtain ⟨a0, a1, a2, a3, a4, a5, a6, a7, a8⟩ := blk9 HB2.out
    go_wp2_with fail
    clear hW2 cw b0 b1 b2 b3 b4 b5 b6 b7 b8 g0 g1 g2 g3 g4 g5 g6 g7 g8 a0 a1 a2 a3 a4 a5 a6 a7 a8
    obtain ⟨W9, hW9⟩ : ∃ W9, set9 W2 w.heap.size (.int .i64 k0) (.slice AK nK cK) (.int .i64 pd) (.bool ns) (.int .i64 f0) (.int .i64 t0) (.slice AL nL cL) (.slice AC nC cC) (.slice AR nR cR) = W9 := ⟨_, rfl⟩
    obtain ⟨hrd, hgr, hbk, hon⟩ := set9_keeps HR2.out HT2.out HB0.out HZ2.out HG3.out _ _ _ _ _ _ _ _ _ W9 hW9
    have hkp : ∀ (B : Nat) (E : TypeId) (k : Nat) (v : Value) (n : Nat) (xs : List Value), w.heap.size < B → w1.ownsRow B E k v n xs → W9.ownsRow B E k v n xs := fun B E k v n xs hB ho =>
      ownk_keep ho fun gg hg hlt => (hon.block gg (Nat.lt_of_lt_of_le hlt HS2.out) (fun e => by injection e; omega)).trans (HA2.out gg hlt)
    unfold set9 at hW9
    rw [hW9]
    obtain ⟨k0', k1, k2, k3, k4, k5, k6, k7, k8⟩ := blk9 hbk
    refine bodyPost_ret (v := .tuple #[.agg #[.int .i64 k0, .slice AK nK cK, .int .i64 pd, .bool ns, .int .i64 f0, .int .i64 t0, .slice AL nL cL, .slice AC nC cC, .slice AR nR cR], .int .i64 0]) (by simp [results, Tryz.results25, go_sem, k0', k1, k2, k3, k4, k5, k6, k7, k8]) rfl ?_
    obtain ⟨m1, m2, m3, m4⟩ := HNN.out
    obtain ⟨⟨B1, r1, l1⟩, ⟨B2, r2, l2⟩, ⟨B3, r3, l3⟩, B4, r4, l4⟩ := HRW.out
    refine ⟨AK, cK, AL, cL, AC, cC, AR, cR, by dsimp only; rw [m1, m2, m3, m4], ?_, hrd, hgr⟩
    dsimp only
    rw [m1, m2, m3, m4]
    have s1 := SlV.of_own (hkp _ _ _ _ _ _ l1 r1)
    exact ⟨s1, m1, wd_own_at encLn_len m2 (hkp _ _ _ _ _ _ l2 r2), wd_own_at encIn_len m3 (hkp _ _ _ _ _ _ l3 r3), wd_own_at encRl_len m4 (hkp _ _ _ _ _ _ l4 r4)⟩
  · have hb : (y == 0) = false := by simp [hy]
    rw [if_neg hy]
    go_enter Tryz.func25, Tryz.ntmps25
    go_wp2_with fail
    clear hW0
    refine HF.out.mono ?_
    rintro e w1 ⟨vK, vL, vC, vR, rfl, hK, hL, hC, hR, hr1, ht1⟩
    obtain ⟨BK, hK, jK, _, _⟩ := hK
    obtain ⟨BL, hL, jL, _, _⟩ := hL
    obtain ⟨BC, hC, jC, _, _⟩ := hC
    obtain ⟨BR, hR, jR, _, _⟩ := hR
    obtain ⟨AK, cK, rfl⟩ := own_formW hK
    obtain ⟨AL, cL, rfl⟩ := own_formW hL
    obtain ⟨AC, cC, rfl⟩ := own_formW hC
    obtain ⟨AR, cR, rfl⟩ := own_formW hR
    have HR1 := Lib.hid hr1
    have HT1 := Lib.hid ht1
    have HZ1 := Lib.hid (ht1.blk HZ0.out (fun e => by have := (HG3.out _ e.symm).2; omega) (by omega))
    clear hr1 ht1
    obtain ⟨k0, ks, pd, ns, f0, t0, ls, cs, rs⟩ := x
    dsimp only at hK hL hC hR ⊢
    obtain ⟨nK, hnK⟩ : ∃ n, ks.length = n := ⟨_, rfl⟩
    obtain ⟨nL, hnL⟩ : ∃ n, ls.length = n := ⟨_, rfl⟩
    obtain ⟨nC, hnC⟩ : ∃ n, cs.length = n := ⟨_, rfl⟩
    obtain ⟨nR, hnR⟩ : ∃ n, rs.length = n := ⟨_, rfl⟩
    rw [hnK] at hK ⊢
    rw [hnL] at hL ⊢
    rw [hnC] at hC ⊢
    rw [hnR] at hR ⊢
    have HRW := Lib.hid (show (∃ B, w1.ownsRow B 3 1 (.slice AK nK cK) nK (ints ks) ∧ w.heap.size < B) ∧ (∃ B, w1.ownsRow B 85 2 (.slice AL nL cL) nL (flLn ls) ∧ w.heap.size < B) ∧ (∃ B, w1.ownsRow B 94 5 (.slice AC nC cC) nC (flIn cs) ∧ w.heap.size < B) ∧ (∃ B, w1.ownsRow B 82 3 (.slice AR nR cR) nR (flRl rs) ∧ w.heap.size < B) from
      ⟨⟨BK, hK, by have := HS0.out; omega⟩, ⟨BL, hL, by have := HS0.out; omega⟩, ⟨BC, hC, by have := HS0.out; omega⟩, ⟨BR, hR, by have := HS0.out; omega⟩⟩)
    have HNN := Lib.hid (show ks.length = nK ∧ ls.length = nL ∧ cs.length = nC ∧ rs.length = nR from ⟨hnK, hnL, hnC, hnR⟩)
    clear hnK hnL hnC hnR hK hL hC hR jK jL jC jR
    obtain ⟨W2, hW2⟩ : ∃ W2, w1.alloc (.cells #[.int .i64 k0, .slice AK nK cK, .int .i64 pd, .bool ns, .int .i64 f0, .int .i64 t0, .slice AL nL cL, .slice AC nC cC, .slice AR nR cR] 27) = W2 := ⟨_, rfl⟩
    have HR2 := Lib.hid (show Rf9 W2 P G (w.heap.size + 1) A c l (s9, _) from by rw [← hW2]; exact HR1.out.new _)
    have HT2 := Lib.hid (show Tw G (w.heap.size + 1) W0 W2 from by rw [← hW2]; exact HT1.out.new _)
    have HZ2 := Lib.hid (show Blk W2 w.heap.size 27 #[.int .i64 0, .slice none 0 0, .int .i64 0, .bool false, .int .i64 0, .int .i64 0, .slice none 0 0, .slice none 0 0, .slice none 0 0] from by rw [← hW2]; exact HZ1.out.alloc _)
    have HB2 := Lib.hid (show Blk W2 w1.heap.size 27 #[.int .i64 k0, .slice AK nK cK, .int .i64 pd, .bool ns, .int .i64 f0, .int .i64 t0, .slice AL nL cL, .slice AC nC cC, .slice AR nR cR] from by rw [← hW2]; exact Blk.new w1 _ _)
    have HA2 := Lib.hid (show ∀ gg, gg < w1.heap.size → W2.heap[gg]? = w1.heap[gg]? from fun gg hg => by rw [← hW2]; exact Below.heap_alloc _ _ _ hg)
    have HS2 := Lib.hid (show w1.heap.size ≤ W2.heap.size from by rw [← hW2]; simp)
    have cw : W2.cell? ⟨w.heap.size + 1, 1, none⟩ = some (.int .i64 _) := HR2.out.bk.cell 1
    obtain ⟨b0, b1, b2, b3, b4, b5, b6, b7, b8⟩ := blk9 HZ2.out
    obtain ⟨g0, g1, g2, g3, g4, g5, g6, g7, g8⟩ := blk9f HZ2.out
    obtain ⟨Wd, hWd⟩ : ∃ x, W2.drew = x := ⟨_, rfl⟩
    have HRd := Lib.hid (show Rf9 Wd P G (w.heap.size + 1) A c l (s9, y) from by rw [← hWd]; exact HR2.out.below (drew_below W2) HR2.out.bk.lt)
    have HTd := Lib.hid (show Tw G (w.heap.size + 1) W0 Wd from by rw [← hWd]; exact ⟨HT2.out.os, HT2.out.tape, HT2.out.output, HT2.out.size, HT2.out.block⟩)
    have HZd := Lib.hid (show Blk Wd w.heap.size 27 #[.int .i64 0, .slice none 0 0, .int .i64 0, .bool false, .int .i64 0, .int .i64 0, .slice none 0 0, .slice none 0 0, .slice none 0 0] from by rw [← hWd]; exact HZ2.out)
    have cwd : Wd.cell? ⟨w.heap.size + 1, 1, none⟩ = some (.int .i64 y) := HRd.out.bk.cell 1
    go_wp2_with fail
    clear hW2 b0 b1 b2 b3 b4 b5 b6 b7 b8 g0 g1 g2 g3 g4 g5 g6 g7 g8
    refine wp_region_noPanic ?_
    refine wp_region_held_drew (S := fun W' => W'.cell? ⟨w.heap.size + 1, 1, none⟩ = some (.int .i64 y)) (by kernel_rfl) (by first | exact cwd | exact cw) (fun hHeld => ?_)
    refine wpAnyH_take (i := 0) rfl (by kernel_rfl) (by kernel_rfl) (by kernel_rfl) (fun _ _ _ h => h) (Or.inl ⟨by rfl, by intro W hSW; (try dsimp only at hSW); go_simp; try (with_reducible rfl)⟩) hHeld ?_
    try simp only [Act.put, List.getElem_toArray, List.getElem_cons_zero, List.getElem_cons_succ, List.setIfInBounds_toArray, List.set_cons_zero, List.set_cons_succ]
    refine wpAnyH_take (i := 1) rfl (by kernel_rfl) (by kernel_rfl) (by kernel_rfl) (fun _ _ _ h => h) (Or.inl ⟨by rfl, by intro W hSW; (try dsimp only at hSW); go_simp; try (with_reducible rfl)⟩) hHeld ?_
    try simp only [Act.put, List.getElem_toArray, List.getElem_cons_zero, List.getElem_cons_succ, List.setIfInBounds_toArray, List.set_cons_zero, List.set_cons_succ]
    refine wpAnyH_take (i := 2) rfl (by kernel_rfl) (by kernel_rfl) (by kernel_rfl) (fun _ _ _ h => h) (Or.inl ⟨by rfl, by intro W hSW; (try dsimp only at hSW); go_simp; try (with_reducible rfl)⟩) hHeld ?_
    try simp only [Act.put, List.getElem_toArray, List.getElem_cons_zero, List.getElem_cons_succ, List.setIfInBounds_toArray, List.set_cons_zero, List.set_cons_succ]
    refine wpAnyH_take (i := 3) rfl (by kernel_rfl) (by kernel_rfl) (by kernel_rfl) (fun _ _ _ h => h) (Or.inl ⟨by rfl, by intro W hSW; (try dsimp only at hSW); go_simp; try (with_reducible rfl)⟩) hHeld ?_
    try simp only [Act.put, List.getElem_toArray, List.getElem_cons_zero, List.getElem_cons_succ, List.setIfInBounds_toArray, List.set_cons_zero, List.set_cons_succ]
    refine wpAnyH_take (i := 4) rfl (by kernel_rfl) (by kernel_rfl) (by kernel_rfl) (fun _ _ _ h => h) (Or.inl ⟨by rfl, by intro W hSW; (try dsimp only at hSW); go_simp; try (with_reducible rfl)⟩) hHeld ?_
    try simp only [Act.put, List.getElem_toArray, List.getElem_cons_zero, List.getElem_cons_succ, List.setIfInBounds_toArray, List.set_cons_zero, List.set_cons_succ]
    try rw [hWd]
    obtain ⟨b0, b1, b2, b3, b4, b5, b6, b7, b8⟩ := blk9 HZd.out
    obtain ⟨g0, g1, g2, g3, g4, g5, g6, g7, g8⟩ := blk9f HZd.out
    refine wpAnyH_ready (rs := [5]) (by kernel_rfl) (by simp) ?_
    refine AllReadyH.cons rfl (fun K hK => ?_) AllReadyH.nil
    go_simp
    clear b0 b1 b2 b3 b4 b5 b6 b7 b8 g0 g1 g2 g3 g4 g5 g6 g7 g8
    obtain ⟨W9, hW9⟩ : ∃ W9, set9 Wd w.heap.size (.int .i64 0) (.slice none 0 0) (.int .i64 0) (.bool false) (.int .i64 0) (.int .i64 0) (.slice none 0 0) (.slice none 0 0) (.slice none 0 0) = W9 := ⟨_, rfl⟩
    obtain ⟨hrd, hgr, hbk, hon⟩ := set9_keeps HRd.out HTd.out HB0.out HZd.out HG3.out _ _ _ _ _ _ _ _ _ W9 hW9
    unfold set9 at hW9
    rw [hW9]
    refine hK.out _ _ ((World.cell?_of_block (hon.block (w.heap.size + 1) HRd.out.bk.lt (fun e => by injection e; omega))).trans cwd) ?_
    clear hK K hHeld
    intro hHeld
    try simp only [Act.put, List.getElem_toArray, List.getElem_cons_zero, List.getElem_cons_succ, List.setIfInBounds_toArray, List.set_cons_zero, List.set_cons_succ]
    refine wpAnyH_take (i := 6) rfl (by kernel_rfl) (by kernel_rfl) (by kernel_rfl) (fun _ _ _ h => h) (Or.inl ⟨by rfl, by intro W hSW; (try dsimp only at hSW); go_simp; try (with_reducible rfl)⟩) hHeld ?_
    try simp only [Act.put, List.getElem_toArray, List.getElem_cons_zero, List.getElem_cons_succ, List.setIfInBounds_toArray, List.set_cons_zero, List.set_cons_succ]
    refine wpAnyH_done (by kernel_rfl) ?_ _
    refine NoPanic.normal ?_
    go_wp2_with fail
    obtain ⟨k0', k1, k2, k3, k4, k5, k6, k7, k8⟩ := blk9 hbk
    refine bodyPost_ret (v := .tuple #[.agg #[.int .i64 0, .slice none 0 0, .int .i64 0, .bool false, .int .i64 0, .int .i64 0, .slice none 0 0, .slice none 0 0, .slice none 0 0], .int .i64 y]) (by simp [results, Tryz.results25, go_sem, k0', k1, k2, k3, k4, k5, k6, k7, k8]) rfl ?_
    exact ⟨none, 0, none, 0, none, 0, none, 0, rfl, ⟨.nil, rfl, By.Wd.nil, By.Wd.nil, By.Wd.nil⟩, hrd, hgr⟩
end Go.Proofs.YtbknmapkdjmcjaaGreatDoor.By
