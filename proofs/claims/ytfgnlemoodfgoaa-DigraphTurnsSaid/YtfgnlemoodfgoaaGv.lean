/-
  WALKS for the laws: the calls in one form; known of layer 10's laws.
-/
import Derived.Test.YtfgnlemoodfgoaaGu
import Derived.Test.YtfgnlemoodfgoaaGq
import Derived.Test.YtfgnlemoodfgoaaGf
import Derived.Test.YtfgnlemoodfgoaaGi
namespace Go.Proofs.Ytfgnlemoodfgoaa.By
open Go.RowKit
open Mem Gm Rf

/-- A graph of no more than n places, b in a row. -/
def Fits (g : List (List Int)) (n b : Nat) : Prop := g.length ≤ n ∧ ∀ i, i < g.length → (rowOf g i).length ≤ b

theorem edges_le {g : List (List Int)} {b : Nat} (h : ∀ i, i < g.length → (rowOf g i).length ≤ b) : (edgesL g).length ≤ g.length * b := by
  unfold edgesL
  rw [List.length_flatMap]
  have := sum_le (List.range g.length) (fun a => (rowE g a (rowOf g a)).length) b fun x hx => by
    have h1 := h x (List.mem_range.1 hx)
    show (rowE g x (rowOf g x)).length ≤ b
    rw [rowE, List.length_map]
    exact Nat.le_trans (List.length_filter_le _ _) h1
  simpa using this

theorem fuel_le {g : List (List Int)} {b : Nat} (k : Nat) (h : ∀ i, i < g.length → (rowOf g i).length ≤ b) : fuel g k ≤ k + g.length * b := by
  unfold fuel out
  have := sum_le (List.range g.length) (fun p => if ([] : List Nat).contains p then 0 else (g.getD p []).length) b fun x hx => by
    have h1 := h x (List.mem_range.1 hx)
    show (if ([] : List Nat).contains x then 0 else (g.getD x []).length) ≤ b
    split
    · omega
    · exact h1
  rw [List.length_range] at this
  omega

theorem Fits.small {g : List (List Int)} (h : Fits g 24 30) : Small g := ⟨by have := h.1; omega, by
  have h1 := edges_le h.2
  have h2 := Nat.mul_le_mul_right 30 h.1
  omega⟩
theorem Fits.fuel {g : List (List Int)} (h : Fits g 24 30) {k : Nat} (hk : k ≤ 31) : fuel g k ≤ 1000000 := by
  have h1 := fuel_le k h.2
  have h2 := Nat.mul_le_mul_right 30 h.1
  omega
theorem gr_fits (n : Nat) (R : Nat → Nat → Bool) (hn : n ≤ 24) : Fits (gr n R) 24 30 := ⟨by rw [gr_length]; exact hn, fun i hi => by
  rw [gr_length] at hi
  unfold rowOf
  rw [gr_row hi, List.length_map]
  have := List.length_filter_le (R i) (List.range n)
  rw [List.length_range] at this
  omega⟩
theorem Fits.clean {g : List (List Int)} (h : Fits g 24 30) : Fits (clean g) 24 30 := gr_fits _ _ h.1
theorem Fits.turn {g : List (List Int)} (h : Fits g 24 30) : Fits (turn g) 24 30 := gr_fits _ _ h.1

/-- Read at this world: a graph; numbers; what is reached. -/
def GW (w : World) (v : Value) (g : List (List Int)) : Prop := Gr w w.heap.size v g
def IW (w : World) (v : Value) (l : List Int) : Prop := SlV w w.heap.size v (ints l)
def BW (w : World) (v : Value) (g : List (List Int)) (fs : List Int) : Prop := SlV w w.heap.size v (reachV g fs)
theorem GW.on {w w' : World} {v : Value} {g : List (List Int)} (h : GW w v g) (hb : Below w.heap.size w w') : GW w' v g := (Gr.below h hb).more hb.size
theorem IW.on {w w' : World} {v : Value} {l : List Int} (h : IW w v l) (hb : Below w.heap.size w w') : IW w' v l := (SlV.below h hb).more hb.size
theorem BW.on {w w' : World} {v : Value} {g : List (List Int)} {fs : List Int} (h : BW w v g fs) (hb : Below w.heap.size w w') : BW w' v g fs := (SlV.below h hb).more hb.size
theorem to_ {w w' w'' : World} (h : Below w.heap.size w w') (k : Below w'.heap.size w' w'') : Below w.heap.size w w'' := h.trans (k.mono h.size)
theorem alloc_ (w : World) (o : Obj) : Below w.heap.size w (w.alloc o) := (Below.refl _ w).alloc (Nat.le_refl _) o

def GAns (N : Nat) (g : List (List Int)) (w : World) (e : Ending) (w' : World) : Prop := ∃ A c, e = .returned (.slice A N c) ∧ GW w' (.slice A N c) g ∧ Below w.heap.size w w'
def IAns (L : Nat) (l : List Int) (w : World) (e : Ending) (w' : World) : Prop := ∃ A c, e = .returned (.slice A L c) ∧ IW w' (.slice A L c) l ∧ Below w.heap.size w w'
def BAns (N : Nat) (g : List (List Int)) (fs : List Int) (w : World) (e : Ending) (w' : World) : Prop := ∃ A, e = .returned (.slice A N N) ∧ BW w' (.slice A N N) g fs ∧ Below w.heap.size w w'
def TAns (w : World) (e : Ending) (w' : World) : Prop := e = .returned (.bool true) ∧ Below w.heap.size w w'

section
variable (w : World) (A A2 : Option Addr) (c c2 N M L : Nat) (g : List (List Int)) (fs : List Int)

theorem clean_w (hN : g.length = N) (h : GW w (.slice A N c) g) (hs : Fits g 24 30) : Calls Try.prog 9 #[.slice A N c] w (GAns N (clean g) w) := by
  subst hN
  refine (clean_any A c w.heap.size g w h (Nat.le_refl _) hs.small).mono fun e w' hh => ?_
  obtain ⟨A', c', h1, h2, h3, _⟩ := hh
  exact ⟨A', c', h1, h2, h3⟩
theorem turn_w (hN : g.length = N) (h : GW w (.slice A N c) g) (hs : Fits g 24 30) : Calls Try.prog 11 #[.slice A N c] w (GAns N (turn g) w) := by
  subst hN
  refine (turn_any A c w.heap.size g w h (Nat.le_refl _) hs.small).mono fun e w' hh => ?_
  obtain ⟨A', c', h1, h2, h3, _⟩ := hh
  exact ⟨A', c', h1, h2, h3⟩
theorem rclean_w (hN : g.length = N) (h : GW w (.slice A N c) g) (hs : Fits g 24 30) : Calls Try.prog 10 #[.slice A N c, .bool false] w (GAns N (clean g) w) := by
  subst hN
  refine (rclean_any w A c g h hs.small.1).mono fun e w' hh => ?_
  obtain ⟨A', c', h1, h2, h3⟩ := hh
  rw [clean_length] at h1 h2
  exact ⟨A', c', h1, h2, h3⟩
theorem rturn_w (hN : g.length = N) (h : GW w (.slice A N c) g) (hs : Fits g 24 30) : Calls Try.prog 10 #[.slice A N c, .bool true] w (GAns N (turn g) w) := by
  subst hN
  refine (rturn_any w A c g h hs.small.1).mono fun e w' hh => ?_
  obtain ⟨A', c', h1, h2, h3⟩ := hh
  rw [turn_length] at h1 h2
  exact ⟨A', c', h1, h2, h3⟩
theorem reach_w (hN : g.length = N) (hM : fs.length = M) (h : GW w (.slice A N c) g) (hF : IW w (.slice A2 M c2) fs) (hs : Fits g 24 30) (hm : M ≤ 31) : Calls Try.prog 13 #[.slice A N c, .slice A2 M c2] w (BAns N g fs w) := by
  subst hN hM
  exact reach_any A A2 c c2 w.heap.size g fs w h hF (Nat.le_refl _) hs.small.1 (hs.fuel hm)
theorem rreach_w (hN : g.length = N) (hM : fs.length = M) (h : GW w (.slice A N c) g) (hF : IW w (.slice A2 M c2) fs) (hs : Fits g 24 30) (hm : M ≤ 31) : Calls Try.prog 14 #[.slice A N c, .slice A2 M c2] w (BAns N g fs w) := by
  subst hN hM
  exact rreach_any w A A2 c c2 g fs h hF hs.small.1 (by omega)
def wayI (g : List (List Int)) (a b : Int) : List Int := (way g a b).map fun (n : Nat) => (n : Int)
theorem way_w (a b : Int) (hN : g.length = N) (hL : (wayI g a b).length = L) (h : GW w (.slice A N c) g) (hs : Fits g 24 30) : Calls Try.prog 16 #[.slice A N c, .int .i64 a, .int .i64 b] w (IAns L (wayI g a b) w) := by
  subst hN hL
  refine (way_any A c w.heap.size g a b w h (Nat.le_refl _) (by have := hs.1; omega) hs.small).mono fun e w' hh => ?_
  obtain ⟨A', c', h1, h2, h3⟩ := hh
  rw [nats_ints] at h2
  exact ⟨A', c', by rw [h1, wayI, List.length_map], by rw [wayI, List.length_map]; exact h2, h3⟩
theorem rway_w (a b : Int) (hN : g.length = N) (hL : (wayI g a b).length = L) (h : GW w (.slice A N c) g) (hs : Fits g 24 30) : Calls Try.prog 17 #[.slice A N c, .int .i64 a, .int .i64 b] w (IAns L (wayI g a b) w) := by
  subst hL
  have key : Calls Try.prog 17 #[.slice A N c, .int .i64 a, .int .i64 b] w (WayAns g a b w) := by
    by_cases ha : 0 ≤ a ∧ a < (N : Int)
    · by_cases hb : 0 ≤ b ∧ b < (N : Int)
      · obtain ⟨x, rfl⟩ : ∃ x : Nat, a = (x : Int) := ⟨a.toNat, by omega⟩
        obtain ⟨y, rfl⟩ : ∃ y : Nat, b = (y : Int) := ⟨b.toNat, by omega⟩
        exact rway_some w A c N x y g hN h (by have := hs.1; omega) (by omega) (by omega)
      · exact rway_none w A c N a b g hN (.inr hb)
    · exact rway_none w A c N a b g hN (.inl ha)
  refine key.mono fun e w' hh => ?_
  obtain ⟨A', c', h1, h2, h3⟩ := hh
  rw [nats_ints] at h2
  exact ⟨A', c', by rw [h1, wayI, List.length_map], by rw [wayI, List.length_map]; exact h2, h3⟩
theorem same_w (hN : g.length = N) (h : GW w (.slice A N c) g) (h2 : GW w (.slice A2 N c2) g) (hl : N ≤ 24) : Calls Try.prog 8 #[.slice A N c, .slice A2 N c2] w (TAns w) := by
  subst hN
  refine (same_any w _ _ A A2 c c2 g h h2 (by omega)).mono fun e w' hh => ?_
  obtain ⟨h1, n, rfl⟩ := hh
  exact ⟨h1, below_drewN (Below.refl _ _) _⟩
theorem ints_w (hL : fs.length = L) (h : IW w (.slice A L c) fs) (h2 : IW w (.slice A2 L c2) fs) (hl : L ≤ 1000) : Calls Try.prog 15 #[.slice A L c, .slice A2 L c2] w (TAns w) := by
  subst hL
  refine (ints_same w _ _ A A2 c c2 fs h h2 (by omega)).mono fun e w' hh => ?_
  obtain ⟨h1, n, rfl⟩ := hh
  exact ⟨h1, below_drewN (Below.refl _ _) _⟩
theorem bools_w (hN : g.length = N) (h : BW w (.slice A N c) g fs) (h2 : BW w (.slice A2 N c2) g fs) (hl : N ≤ 1000) : Calls Try.prog 12 #[.slice A N c, .slice A2 N c2] w (TAns w) := by
  subst hN
  refine (bools_same w _ _ A A2 g.length c c2 (reach g fs) h h2 (by omega)).mono fun e w' hh => ?_
  obtain ⟨h1, n, rfl⟩ := hh
  exact ⟨h1, below_drewN (Below.refl _ _) _⟩
end

/-- Numbers, and a graph, that are built of literals. -/
theorem IW.built {w : World} {b : Nat} {t : TypeId} (l : List Int) {cs : Array Value} (hb : Blk w b t cs) (hc : cs.toList = ints l) (hm : l.length ≤ 1000) : IW w (.slice (some ⟨b, 0, none⟩) l.length l.length) l := by
  have hlen : (ints l).length = l.length := by simp [ints]
  have : SlV w w.heap.size (.slice (some ⟨b, 0, none⟩) (ints l).length l.length) (ints l) :=
    .at_ _ _ _ (by rw [hlen]; exact Nat.le_refl _) (by unfold maxLen; omega) fun j u hu => ⟨hb.lt, by rw [add_plain, Nat.zero_add, hb.cell, ← Array.getElem?_toList, hc]; exact hu⟩
  rwa [hlen] at this
theorem GW.built {w : World} {b : Nat} {t : TypeId} (g : List (List Int)) {cs : Array Value} (hb : Blk w b t cs) (hl : cs.size = g.length) (hm : g.length ≤ 1000)
    (h : ∀ i rv, cs[i]? = some rv → ∃ A c, rv = .slice A (rowOf g i).length c ∧ IW w rv (rowOf g i)) : GW w (.slice (some ⟨b, 0, none⟩) g.length g.length) g := by
  refine ⟨cs.toList, ?_, by simpa using hl, fun i rv hi => ?_⟩
  · have : SlV w w.heap.size (.slice (some ⟨b, 0, none⟩) cs.toList.length g.length) cs.toList :=
      .at_ _ _ _ (by simp [hl]) (by unfold maxLen; omega) fun j u hu => ⟨hb.lt, by rw [add_plain, Nat.zero_add, hb.cell, ← Array.getElem?_toList]; exact hu⟩
    rwa [show cs.toList.length = g.length by simpa using hl] at this
  · obtain ⟨A, c, e, hs⟩ := h i rv (by rw [← Array.getElem?_toList]; exact hi)
    exact ⟨A, c, e, hs⟩
theorem IW.emp (w : World) : IW w (.slice none 0 0) [] := .nil
end Go.Proofs.Ytfgnlemoodfgoaa.By
