/-
  THE MOVES THAT COME IN of layer 6: a list of three numbers each.
-/
import Derived.Test.YtajlbiohaafpnaaQn
import Derived.Deep.Slices
import Derived.ChangeSame
import Derived.OpenShut
namespace Go.Proofs.Ytajlbiohaafpnaa.Qu
open Go.RowKit Go.Maps Go.Deep Go.ChangeShapes Go.WideShapes
open Mem Hp

/-- The slice that came in has len moves: K i, I i, Y i. -/
def Moves (w : World) (a : Option Addr) (len cap : Nat) (K : Nat → Int) (M : Nat → It) : Prop :=
  (a = none ∧ len = 0 ∧ cap = 0) ∨
  ∃ x, a = some x ∧ len ≤ cap ∧ cap ≤ maxLen ∧ ∀ i, i < len → (w.cell? (x.add (i * 3)) = some (.int .i64 (K i)) ∧ w.cell? (x.add (i * 3 + 1)) = some (.int .i64 (M i).1) ∧ w.cell? (x.add (i * 3 + 2)) = some (.int .i64 (M i).2)) ∧ In64 (K i) ∧ In64 (M i).1 ∧ In64 (M i).2

theorem in64_wf {a : Int} (h : (Lit.int .i64 a).wf = true) : In64 a := bounds_i64 h

theorem moves_of {H : Type} {enc : TypeId × Value → H} {w : World} {base : Nat} {spare : Nat → Bool} {held : Bool} {fuel : Nat} {a : Option Addr} {len cap : Nat} {x : DataW H × List MemPlace}
    (h : DataW.trod enc Try.prog w base spare held fuel 22 [.slice a len cap] = some x) : ∃ K M, Moves w a len cap K M := by
  rcases open_slice Try.underlying22 h with ⟨hcs, _⟩ | ⟨ad, l, c, m, n, D, Pl, hcs, _, hl, hm, hmm, _, hi⟩
  · simp only [List.cons.injEq, Value.slice.injEq, and_true] at hcs
    exact ⟨fun _ => 0, fun _ => (0, 0), .inl hcs⟩
  · simp only [List.cons.injEq, Value.slice.injEq, and_true] at hcs
    obtain ⟨rfl, rfl, rfl⟩ := hcs
    have hlm : len ≤ m := by rw [hmm]; split <;> omega
    have hc3 : Try.prog.cellsOf 28 = 3 := by kernel_rfl
    have hc1 : Try.prog.cellsOf 3 = 1 := by kernel_rfl
    have each : ∀ i, i < len → ∃ q : Int × Int × Int, (w.cell? (ad.add (i * 3)) = some (.int .i64 q.1) ∧ w.cell? (ad.add (i * 3 + 1)) = some (.int .i64 q.2.1) ∧ w.cell? (ad.add (i * 3 + 2)) = some (.int .i64 q.2.2)) ∧ In64 q.1 ∧ In64 q.2.1 ∧ In64 q.2.2 := fun i hil => by
      obtain ⟨cs', h1, h2⟩ := hi i (by omega)
      rw [hc3] at h1
      obtain ⟨_, hlen, hcell⟩ := World.cells?_some h1
      obtain ⟨xs, k, _, _, _, hxl, hf⟩ := DataW.trod_struct Try.underlying28 h2
      match xs, hxl, cs', hlen with
      | [y0, y1, y2], _, [v0, v1, v2], _ =>
        have g0 := hf 0 _ rfl
        have g1 := hf 1 _ rfl
        have g2 := hf 2 _ rfl
        simp [hc1] at g0 g1 g2
        obtain ⟨a0, e0, _, w0⟩ := DataW.trod_int Try.underlying3 g0
        obtain ⟨a1, e1, _, w1⟩ := DataW.trod_int Try.underlying3 g1
        obtain ⟨a2, e2, _, w2⟩ := DataW.trod_int Try.underlying3 g2
        simp only [List.cons.injEq, and_true] at e0 e1 e2
        subst e0 e1 e2
        have f0 := hcell 0 (by omega)
        have f1 := hcell 1 (by omega)
        have f2 := hcell 2 (by omega)
        rw [Go.Deep.add_add] at f0 f1 f2
        exact ⟨(a0, a1, a2), ⟨by simpa using f0, by simpa using f1, by simpa using f2⟩, in64_wf w0, in64_wf w1, in64_wf w2⟩
    obtain ⟨q, hq⟩ := choose_lt each
    exact ⟨fun i => (q i).1, fun i => (q i).2, .inr ⟨ad, rfl, hl, hm, hq⟩⟩

theorem Moves.below {w w' : World} {a : Option Addr} {len cap : Nat} {K : Nat → Int} {M : Nat → It} (h : Moves w a len cap K M) (hb : Below w.heap.size w w') : Moves w' a len cap K M := by
  rcases h with h | ⟨x, e, hl, hm, hi⟩
  · exact .inl h
  · refine .inr ⟨x, e, hl, hm, fun i hil => ⟨?_, (hi i hil).2⟩⟩
    obtain ⟨h0, h1, h2⟩ := (hi i hil).1
    exact ⟨(hb.cell (World.block_lt_of_cell? w _ h0)).trans h0, (hb.cell (World.block_lt_of_cell? w _ h1)).trans h1, (hb.cell (World.block_lt_of_cell? w _ h2)).trans h2⟩

theorem add_field (x : Addr) (k j : Nat) (hj : 0 < j) : x.add (k + j) = ⟨(x.add k).block, (x.add k).off + j, none⟩ := by
  unfold Addr.add
  rw [if_neg (by omega)]
  split
  · simp
  · simp [Nat.add_assoc]

/-- What the walk is told of the i-th move, at the addresses that it reckons. -/
theorem Moves.at_ {w : World} {a : Option Addr} {len cap : Nat} {K : Nat → Int} {M : Nat → It} (h : Moves w a len cap K M) {i : Nat} (hi : i < len) :
    ∃ x, a = some x ∧ (w.cell? (x.add (i * 3)) = some (.int .i64 (K i)) ∧ w.cell? ⟨(x.add (i * 3)).block, (x.add (i * 3)).off + 1, none⟩ = some (.int .i64 (M i).1) ∧ w.cell? ⟨(x.add (i * 3)).block, (x.add (i * 3)).off + 2, none⟩ = some (.int .i64 (M i).2)) ∧ In64 (K i) ∧ In64 (M i).1 ∧ In64 (M i).2 := by
  rcases h with ⟨_, h, _⟩ | ⟨x, e, _, _, hx⟩
  · omega
  · obtain ⟨⟨h0, h1, h2⟩, r⟩ := hx i hi
    rw [add_field x _ 1 (by omega)] at h1
    rw [add_field x _ 2 (by omega)] at h2
    exact ⟨x, e, ⟨h0, h1, h2⟩, r⟩
end Go.Proofs.Ytajlbiohaafpnaa.Qu
