/-
  WALKS of layer 14: every call in one form; known: it answers true.
-/
import Derived.Test.YthkbdclnnpcoiaaUg
namespace Go.Proofs.Ythkbdclnnpcoiaa.By
open Go.RowKit
open Mem Gm Rf

def CW (w : World) (A : Option Addr) (n c : Nat) (O T : Nat → Int) : Prop := Cd w w.heap.size A n c O T
def IW (w : World) (v : Value) (l : List Int) : Prop := SlV w w.heap.size v (ints l)
def BW (w : World) (v : Value) (n : Nat) (o : Nat → Bool) : Prop := SlV w w.heap.size v ((List.range n).map fun i => .bool (o i))
theorem CW.on {w w' : World} {A : Option Addr} {n c : Nat} {O T : Nat → Int} (h : CW w A n c O T) (hb : Below w.heap.size w w') : CW w' A n c O T := (Cd.below h hb).more hb.size
theorem IW.on {w w' : World} {v : Value} {l : List Int} (h : IW w v l) (hb : Below w.heap.size w w') : IW w' v l := (SlV.below h hb).more hb.size
theorem BW.on {w w' : World} {v : Value} {n : Nat} {o : Nat → Bool} (h : BW w v n o) (hb : Below w.heap.size w w') : BW w' v n o := (SlV.below h hb).more hb.size
theorem to_ {w w' w'' : World} (h : Below w.heap.size w w') (k : Below w'.heap.size w' w'') : Below w.heap.size w w'' := h.trans (k.mono h.size)
theorem alloc_ (w : World) (o : Obj) : Below w.heap.size w (w.alloc o) := (Below.refl _ w).alloc (Nat.le_refl _) o
theorem alloc2_ (w : World) (a b : Obj) : Below w.heap.size w ((w.alloc a).alloc b) := to_ (alloc_ w a) (alloc_ _ b)
theorem size_alloc (w : World) (o : Obj) : (w.alloc o).heap.size = w.heap.size + 1 := by simp

def IAns (L : Nat) (l : List Int) (w : World) (e : Ending) (w' : World) : Prop := ∃ A c, e = .returned (.slice A L c) ∧ IW w' (.slice A L c) l ∧ Below w.heap.size w w'
def BAns (n : Nat) (o : Nat → Bool) (w : World) (e : Ending) (w' : World) : Prop := ∃ A, e = .returned (.slice A n n) ∧ BW w' (.slice A n n) n o ∧ Below w.heap.size w w'
def TAns (w : World) (e : Ending) (w' : World) : Prop := e = .returned (.bool true) ∧ Below w.heap.size w w'

theorem ra_b {n : Nat} {O T : Nat → Int} {fs : List Int} {w w' : World} {e : Ending} (h : RA n (gph n O T) fs w e w') : BAns n (reach (gph n O T) fs) w e w' := by
  obtain ⟨A, h1, h2, h3⟩ := h
  unfold reachV at h2
  rw [gph_length] at h2
  exact ⟨A, h1, h2, h3⟩

section
variable {w : World} {A A2 : Option Addr} {n c c2 M L : Nat} {O T : Nat → Int} {l : List Int}
theorem next_w (i : Int) (h : CW w A n c O T) (hl : nxt n O T i = l) (hL : l.length = L) : Calls Try.prog 23 #[.slice A n c, .int .i64 i] w (IAns L l w) := by
  subst hl hL
  refine (next_any w A n c O T h i).mono fun e w' hh => ?_
  obtain ⟨v, h1, h2, h3⟩ := hh
  obtain ⟨A', c', rfl, h4⟩ := h2.slv
  exact ⟨A', c', h1, h4, h3⟩
theorem rnext_w (i : Int) (h : CW w A n c O T) (hl : nxt n O T i = l) (hL : l.length = L) : Calls Try.prog 20 #[.slice A n c, .int .i64 i] w (IAns L l w) := by
  subst hl hL
  refine (rnext_any w A n c O T h i).mono fun e w' hh => ?_
  obtain ⟨v, h1, h2, h3⟩ := hh
  obtain ⟨A', c', rfl, h4⟩ := h2.slv
  exact ⟨A', c', h1, h4, h3⟩
theorem after_w {o : Nat → Bool} (h : CW w A n c O T) (hM : l.length = M) (hm : IW w (.slice A2 M c2) l) (ho : reach (gph n O T) (behs n O T l) = o) (hn : n ≤ 1000) (hl : M ≤ 1000) : Calls Try.prog 19 #[.slice A n c, .slice A2 M c2] w (BAns n o w) := by
  subst ho; exact (after_any w A A2 n c c2 M O T l h hM hm hn hl).mono fun _ _ hh => ra_b hh
theorem rafter_w {o : Nat → Bool} (h : CW w A n c O T) (hM : l.length = M) (hm : IW w (.slice A2 M c2) l) (ho : reach (gph n O T) (behs n O T l) = o) (hn : n ≤ 1000) (hl : M ≤ 1000) : Calls Try.prog 17 #[.slice A n c, .slice A2 M c2] w (BAns n o w) := by
  subst ho; exact (rafter_any w A A2 n c c2 M O T l h hM hm hn hl).mono fun _ _ hh => ra_b hh
theorem ints_w (hL : l.length = L) (h : IW w (.slice A L c) l) (h2 : IW w (.slice A2 L c2) l) (hl : L ≤ 1000) : Calls Try.prog 9 #[.slice A L c, .slice A2 L c2] w (TAns w) := by
  subst hL
  refine (ints_same w _ _ A A2 c c2 l h h2 (by omega)).mono fun e w' hh => ?_
  obtain ⟨h1, n, rfl⟩ := hh
  exact ⟨h1, below_drewN (Below.refl _ _) _⟩
end

theorem IW.lit {w : World} {b : Nat} {t : TypeId} {cs : Array Value} (l : List Int) (n : Nat) (hb : Blk w b t cs) (hc : cs.toList = ints l) (hn : l.length = n) (hm : n ≤ 1000) : IW w (.slice (some ⟨b, 0, none⟩) n n) l := by
  subst hn
  have hlen : (ints l).length = l.length := by simp [ints]
  have : SlV w w.heap.size (.slice (some ⟨b, 0, none⟩) (ints l).length l.length) (ints l) :=
    .at_ _ _ _ (by rw [hlen]; exact Nat.le_refl _) (by unfold maxLen; omega) fun j u hu => ⟨hb.lt, by rw [add_plain, Nat.zero_add, hb.cell, ← Array.getElem?_toList, hc]; exact hu⟩
  rwa [hlen] at this
theorem BW.lit {w : World} {b : Nat} {t : TypeId} {cs : Array Value} (o : Nat → Bool) (n : Nat) (hb : Blk w b t cs) (hc : cs.toList = (List.range n).map fun i => .bool (o i)) (hm : n ≤ 1000) : BW w (.slice (some ⟨b, 0, none⟩) n n) n o := by
  have hlen : ((List.range n).map fun i => Value.bool (o i)).length = n := by simp
  have : SlV w w.heap.size (.slice (some ⟨b, 0, none⟩) ((List.range n).map fun i => Value.bool (o i)).length n) ((List.range n).map fun i => .bool (o i)) :=
    .at_ _ _ _ (by rw [hlen]; exact Nat.le_refl _) (by unfold maxLen; omega) fun j u hu => ⟨hb.lt, by rw [add_plain, Nat.zero_add, hb.cell, ← Array.getElem?_toList, hc]; exact hu⟩
  rwa [hlen] at this

end Go.Proofs.Ythkbdclnnpcoiaa.By
