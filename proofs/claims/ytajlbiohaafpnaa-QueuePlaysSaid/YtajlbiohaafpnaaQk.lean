/-
  WALKS of layer 6: the fixed calls; a queue of the call's own, with all that it has.
-/
import Derived.Test.YtajlbiohaafpnaaQd
namespace Go.Proofs.Ytajlbiohaafpnaa.Qu
open Go.RowKit Go.Maps
open Mem Hp

theorem below_tn {B : Nat} {U : Nat → Prop} {a b c : World} (h : Below B a b) (k : Tn U b c) (hu : ∀ x, U x → B ≤ x) (hB : B ≤ b.heap.size) : Below B a c :=
  ⟨k.os.trans h.os, k.tape.trans h.tape, k.output.trans h.output, Nat.le_trans h.size k.size, fun x hx => (k.block x (by omega) (fun hux => by have := hu x hux; omega)).trans (h.block x hx)⟩

/-- A queue that the call itself made, behind block B; since w nothing below B has turned. -/
structure Own (B : Nat) (w w' : World) (q : Nat) (U : Nat → Prop) (n : Nat) (S : It → Prop) : Prop where
  qs : Qs w' q U n S
  ge : ∀ x, U x → B ≤ x
  bel : Below B w w'
  size : B ≤ w'.heap.size

theorem Own.turn {B : Nat} {w a b : World} {q : Nat} {U : Nat → Prop} {n m : Nat} {S S' : It → Prop} (h : Own B w a q U n S) (hq : Qs b q U m S') (ht : Tn U a b) : Own B w b q U m S' :=
  ⟨hq, h.ge, below_tn h.bel ht h.ge h.size, Nat.le_trans h.size ht.size⟩
theorem Own.grow {B : Nat} {w a b : World} {q : Nat} {U : Nat → Prop} {n m : Nat} {S S' : It → Prop} (h : Own B w a q U n S) (hq : Qs b q (Gr U a b) m S') (ht : Tn U a b) : Own B w b q (Gr U a b) m S' :=
  ⟨hq, fun x hx => by
    rcases hx with hx | hx
    · exact h.ge x hx
    · have := h.size; omega, below_tn h.bel ht h.ge h.size, Nat.le_trans h.size ht.size⟩

theorem own_new {w w' : World} (h : Qs w' (w.heap.size + 2) (fun b => w.heap.size ≤ b ∧ b < w.heap.size + 2) 0 (fun _ => False)) (hb : Below w.heap.size w w') : Own w.heap.size w w' (w.heap.size + 2) (fun b => w.heap.size ≤ b ∧ b < w.heap.size + 2) 0 (fun _ => False) :=
  ⟨h, fun _ hx => hx.1, hb, hb.size⟩

theorem in64_of {a : Int} (h : -1000 ≤ a ∧ a ≤ 1000) : In64 a := ⟨by omega, by omega⟩

set_option maxHeartbeats 4000000 in
set_option maxRecDepth 100000 in
theorem known_any (w : World) : Calls Try.prog 7 #[] w fun e w' => e = .returned (.bool true) ∧ Below w.heap.size w w' := by
  go_enter Try.func7, Try.ntmps7
  go_wp2_with fail
  refine (new_any w).mono ?_
  rintro e w0 ⟨rfl, hq0, hb0⟩
  have H0 := Lib.hid (own_new hq0 hb0)
  clear hq0 hb0
  generalize (fun b => w.heap.size ≤ b ∧ b < w.heap.size + 2) = U at H0
  generalize hq : w.heap.size + 2 = q at H0 ⊢
  clear hq
  go_wp2_with fail
  refine (put_yes w0 q U 0 _ H0.out.qs (3, 9) ⟨in64_of (by decide), in64_of (by decide)⟩ (by omega) (fun _ (hy : False) => hy.elim)).mono ?_
  rintro e w1 ⟨rfl, hq1, ht1⟩
  have H1 := Lib.hid (H0.out.grow hq1 ht1)
  clear hq1 ht1 H0
  generalize Gr U w0 w1 = U1 at H1
  go_wp2_with fail
  refine (put_yes w1 q U1 _ _ H1.out.qs (4, 5) ⟨in64_of (by decide), in64_of (by decide)⟩ (by omega) (fun y hy => by rcases hy with hy | hy; exact hy.elim; subst hy; decide)).mono ?_
  rintro e w2 ⟨rfl, hq2, ht2⟩
  have H2 := Lib.hid (H1.out.grow hq2 ht2)
  clear hq2 ht2 H1
  generalize Gr U1 w1 w2 = U2 at H2
  go_wp2_with fail
  refine (put_yes w2 q U2 _ _ H2.out.qs (1, 9) ⟨in64_of (by decide), in64_of (by decide)⟩ (by omega) (fun y hy => by rcases hy with (hy | hy) | hy; exact hy.elim; all_goals (subst hy; decide))).mono ?_
  rintro e w3 ⟨rfl, hq3, ht3⟩
  have H3 := Lib.hid (H2.out.grow hq3 ht3)
  clear hq3 ht3 H2
  generalize Gr U2 w2 w3 = U3 at H3
  go_wp2_with fail
  refine (put_no w3 q U3 _ _ H3.out.qs 4 1 (4, 5) (.inl (.inr rfl)) rfl).mono ?_
  rintro e w' ⟨rfl, rfl⟩
  go_wp2_with fail
  refine (take_yes w3 q U3 _ _ H3.out.qs).mono ?_
  rintro e w4 ⟨x, rfl, hx, hle, hq4, ht4⟩
  obtain rfl : x = (4, 5) := by
    have h1 := hle (4, 5) (.inl (.inr rfl))
    rcases hx with ((hx | hx) | hx) | hx
    · exact hx.elim
    · subst hx; exact absurd (show fore _ _ = false from h1) (by decide)
    · exact hx
    · subst hx; exact absurd (show fore _ _ = false from h1) (by decide)
  have H4 := Lib.hid (H3.out.turn hq4 ht4)
  clear hx hle hq4 ht4 H3
  go_wp2_with fail
  refine (take_yes w4 q U3 _ _ H4.out.qs).mono ?_
  rintro e w5 ⟨x, rfl, hx, hle, hq5, ht5⟩
  obtain rfl : x = (1, 9) := by
    have h1 := hle (1, 9) ⟨.inr rfl, by decide⟩
    obtain ⟨((hx | hx) | hx) | hx, hne⟩ := hx
    · exact hx.elim
    · subst hx; exact absurd (show fore _ _ = false from h1) (by decide)
    · exact absurd hx hne
    · exact hx
  have H5 := Lib.hid (H4.out.turn hq5 ht5)
  clear hx hle hq5 ht5 H4
  go_wp2_with fail
  refine (qlen_any w5 q U3 _ _ H5.out.qs).mono ?_
  rintro e w' ⟨rfl, rfl⟩
  go_wp2_with fail
  go_ret
  exact ⟨rfl, H5.out.bel⟩
end Go.Proofs.Ytajlbiohaafpnaa.Qu
