/-
  WALKS of layer 14: every call in one form; known: it answers true.
-/
import Derived.Test.YtckpbdphilifoaaUj
namespace Go.Proofs.Ytckpbdphilifoaa.By
open Go.RowKit
open Mem Gm Rf

def CW (w : World) (A : Option Addr) (n c : Nat) (O T : Nat → Int) : Prop := Cd w w.heap.size A n c O T
def IW (w : World) (v : Value) (l : List Int) : Prop := SlV w w.heap.size v (ints l)
def BW (w : World) (v : Value) (n : Nat) (o : Nat → Bool) : Prop := SlV w w.heap.size v ((List.range n).map fun i => .bool (o i))
theorem CW.on {w w' : World} {A : Option Addr} {n c : Nat} {O T : Nat → Int} (h : CW w A n c O T) (hb : Below w.heap.size w w') : CW w' A n c O T := (Cd.below h hb).more hb.size
theorem IW.on {w w' : World} {v : Value} {l : List Int} (h : IW w v l) (hb : Below w.heap.size w w') : IW w' v l := (SlV.below h hb).more hb.size
theorem BW.on {w w' : World} {v : Value} {n : Nat} {o : Nat → Bool} (h : BW w v n o) (hb : Below w.heap.size w w') : BW w' v n o := (SlV.below h hb).more hb.size
theorem to_ {w w' w'' : World} (h : Below w.heap.size w w') (k : Below w'.heap.size w' w'') : Below w.heap.size w w'' := h.trans (k.mono h.size)
theorem alloc_ (w : World) (o : Obj) : Below w.heap.size w (w.alloc o) := (Below.refl _ w).alloc (Nat.le_refl _) o
theorem alloc2_ (w : World) (a b : Obj) : Below w.heap.size w ((w.alloc a).alloc b) := to_ (alloc_ w a) (alloc_ _ b)
theorem size_alloc (w : World) (o : Obj) : (w.alloc o).heap.size = w.heap.size + 1 := by simp

def IAns (L : Nat) (l : List Int) (w : World) (e : Ending) (w' : World) : Prop := ∃ A c, e = .returned (.slice A L c) ∧ IW w' (.slice A L c) l ∧ Below w.heap.size w w'
def BAns (n : Nat) (o : Nat → Bool) (w : World) (e : Ending) (w' : World) : Prop := ∃ A, e = .returned (.slice A n n) ∧ BW w' (.slice A n n) n o ∧ Below w.heap.size w w'
def TAns (w : World) (e : Ending) (w' : World) : Prop := e = .returned (.bool true) ∧ Below w.heap.size w w'

theorem ra_b {n : Nat} {O T : Nat → Int} {fs : List Int} {w w' : World} {e : Ending} (h : RA n (gph n O T) fs w e w') : BAns n (reach (gph n O T) fs) w e w' := by
  obtain ⟨A, h1, h2, h3⟩ := h
  unfold reachV at h2
  rw [gph_length] at h2
  exact ⟨A, h1, h2, h3⟩

section
variable {w : World} {A A2 : Option Addr} {n c c2 M L : Nat} {O T : Nat → Int} {l : List Int}
theorem next_w (i : Int) (h : CW w A n c O T) (hl : nxt n O T i = l) (hL : l.length = L) : Calls Try.prog 27 #[.slice A n c, .int .i64 i] w (IAns L l w) := by
  subst hl hL
  refine (next_any w A n c O T h i).mono fun e w' hh => ?_
  obtain ⟨v, h1, h2, h3⟩ := hh
  obtain ⟨A', c', rfl, h4⟩ := h2.slv
  exact ⟨A', c', h1, h4, h3⟩
theorem rnext_w (i : Int) (h : CW w A n c O T) (hl : nxt n O T i = l) (hL : l.length = L) : Calls Try.prog 28 #[.slice A n c, .int .i64 i] w (IAns L l w) := by
  subst hl hL
  refine (rnext_any w A n c O T h i).mono fun e w' hh => ?_
  obtain ⟨v, h1, h2, h3⟩ := hh
  obtain ⟨A', c', rfl, h4⟩ := h2.slv
  exact ⟨A', c', h1, h4, h3⟩
theorem check_w {x : Int} (h : CW w A n c O T) (hx : chk n (gph n O T) = x) : Calls Try.prog 29 #[.slice A n c] w (CAns w x) := by
  subst hx; exact check_any w A n c O T h
theorem rcheck_w {x : Int} (h : CW w A n c O T) (hx : chk n (gph n O T) = x) : Calls Try.prog 30 #[.slice A n c] w (CAns w x) := by
  subst hx; exact rcheck_any w A n c O T h
theorem live_w {o : Nat → Bool} (h : CW w A n c O T) (ho : reach (gph n O T) [0] = o) (hn : n ≤ 1000) : Calls Try.prog 32 #[.slice A n c] w (BAns n o w) := by
  subst ho; exact (live_any w A n c O T h hn).mono fun _ _ hh => ra_b hh
theorem rlive_w {o : Nat → Bool} (h : CW w A n c O T) (ho : reach (gph n O T) [0] = o) (hn : n ≤ 1000) : Calls Try.prog 33 #[.slice A n c] w (BAns n o w) := by
  subst ho; exact (rlive_any w A n c O T h hn).mono fun _ _ hh => ra_b hh
theorem after_w {o : Nat → Bool} (h : CW w A n c O T) (hM : l.length = M) (hm : IW w (.slice A2 M c2) l) (ho : reach (gph n O T) (behs n O T l) = o) (hn : n ≤ 1000) (hl : M ≤ 1000) : Calls Try.prog 34 #[.slice A n c, .slice A2 M c2] w (BAns n o w) := by
  subst ho; exact (after_any w A A2 n c c2 M O T l h hM hm hn hl).mono fun _ _ hh => ra_b hh
theorem rafter_w {o : Nat → Bool} (h : CW w A n c O T) (hM : l.length = M) (hm : IW w (.slice A2 M c2) l) (ho : reach (gph n O T) (behs n O T l) = o) (hn : n ≤ 1000) (hl : M ≤ 1000) : Calls Try.prog 35 #[.slice A n c, .slice A2 M c2] w (BAns n o w) := by
  subst ho; exact (rafter_any w A A2 n c c2 M O T l h hM hm hn hl).mono fun _ _ hh => ra_b hh
theorem ints_w (hL : l.length = L) (h : IW w (.slice A L c) l) (h2 : IW w (.slice A2 L c2) l) (hl : L ≤ 1000) : Calls Try.prog 26 #[.slice A L c, .slice A2 L c2] w (TAns w) := by
  subst hL
  refine (ints_same w _ _ A A2 c c2 l h h2 (by omega)).mono fun e w' hh => ?_
  obtain ⟨h1, n, rfl⟩ := hh
  exact ⟨h1, below_drewN (Below.refl _ _) _⟩
theorem bools_w {o : Nat → Bool} (h : BW w (.slice A n c) n o) (h2 : BW w (.slice A2 n c2) n o) (hl : n ≤ 1000) : Calls Try.prog 31 #[.slice A n c, .slice A2 n c2] w (TAns w) := by
  refine (bools_same w _ _ A A2 n c c2 o h h2 (by omega)).mono fun e w' hh => ?_
  obtain ⟨h1, n, rfl⟩ := hh
  exact ⟨h1, below_drewN (Below.refl _ _) _⟩
end

theorem IW.lit {w : World} {b : Nat} {t : TypeId} {cs : Array Value} (l : List Int) (n : Nat) (hb : Blk w b t cs) (hc : cs.toList = ints l) (hn : l.length = n) (hm : n ≤ 1000) : IW w (.slice (some ⟨b, 0, none⟩) n n) l := by
  subst hn
  have hlen : (ints l).length = l.length := by simp [ints]
  have : SlV w w.heap.size (.slice (some ⟨b, 0, none⟩) (ints l).length l.length) (ints l) :=
    .at_ _ _ _ (by rw [hlen]; exact Nat.le_refl _) (by unfold maxLen; omega) fun j u hu => ⟨hb.lt, by rw [add_plain, Nat.zero_add, hb.cell, ← Array.getElem?_toList, hc]; exact hu⟩
  rwa [hlen] at this
theorem BW.lit {w : World} {b : Nat} {t : TypeId} {cs : Array Value} (o : Nat → Bool) (n : Nat) (hb : Blk w b t cs) (hc : cs.toList = (List.range n).map fun i => .bool (o i)) (hm : n ≤ 1000) : BW w (.slice (some ⟨b, 0, none⟩) n n) n o := by
  have hlen : ((List.range n).map fun i => Value.bool (o i)).length = n := by simp
  have : SlV w w.heap.size (.slice (some ⟨b, 0, none⟩) ((List.range n).map fun i => Value.bool (o i)).length n) ((List.range n).map fun i => .bool (o i)) :=
    .at_ _ _ _ (by rw [hlen]; exact Nat.le_refl _) (by unfold maxLen; omega) fun j u hu => ⟨hb.lt, by rw [add_plain, Nat.zero_add, hb.cell, ← Array.getElem?_toList, hc]; exact hu⟩
  rwa [hlen] at this

/-- The code of the fixed calls. -/
def kO (i : Nat) : Int := [12, 24, 11].getD i 0
def kT (i : Nat) : Int := [2, 0, 0].getD i 0
theorem kcode (w : World) (t : TypeId) : CW (w.alloc (.cells #[.int .i64 12, .int .i64 1, .int .i64 0, .int .i64 0, .int .i64 2, .int .i64 24, .int .i64 0, .int .i64 0, .int .i64 0, .int .i64 0, .int .i64 11, .int .i64 0, .int .i64 0, .int .i64 0, .int .i64 0] t)) (some ⟨w.heap.size, 0, none⟩) 3 3 kO kT := by
  refine ⟨Nat.le_refl _, by unfold maxLen; omega, fun i hi => ?_⟩
  have hc := (Blk.new w t #[.int .i64 12, .int .i64 1, .int .i64 0, .int .i64 0, .int .i64 2, .int .i64 24, .int .i64 0, .int .i64 0, .int .i64 0, .int .i64 0, .int .i64 11, .int .i64 0, .int .i64 0, .int .i64 0, .int .i64 0]).cell
  have key : ∀ (i : Nat) (vs : List Value), vs.length = 5 → (∀ j, j < 5 → #[Value.int .i64 12, .int .i64 1, .int .i64 0, .int .i64 0, .int .i64 2, .int .i64 24, .int .i64 0, .int .i64 0, .int .i64 0, .int .i64 0, .int .i64 11, .int .i64 0, .int .i64 0, .int .i64 0, .int .i64 0][i * 5 + j]? = vs[j]?) → ∀ j u, vs[j]? = some u → (w.alloc (.cells #[.int .i64 12, .int .i64 1, .int .i64 0, .int .i64 0, .int .i64 2, .int .i64 24, .int .i64 0, .int .i64 0, .int .i64 0, .int .i64 0, .int .i64 11, .int .i64 0, .int .i64 0, .int .i64 0, .int .i64 0] t)).cell? (((⟨w.heap.size, 0, none⟩ : Addr).add (i * 5)).add j) = some u := fun i vs h5 hv j u hu => by
    have hj : j < 5 := by have := (List.getElem?_eq_some_iff.1 hu).1; omega
    rw [add_plain, add_plain, Nat.zero_add, hc, hv j hj]; exact hu
  match i, hi with
  | 0, _ => exact ⟨_, 1, 0, 0, rfl, by simp, key 0 _ rfl (fun j hj => by match j, hj with | 0, _ => rfl | 1, _ => rfl | 2, _ => rfl | 3, _ => rfl | 4, _ => rfl)⟩
  | 1, _ => exact ⟨_, 0, 0, 0, rfl, by simp, key 1 _ rfl (fun j hj => by match j, hj with | 0, _ => rfl | 1, _ => rfl | 2, _ => rfl | 3, _ => rfl | 4, _ => rfl)⟩
  | 2, _ => exact ⟨_, 0, 0, 0, rfl, by simp, key 2 _ rfl (fun j hj => by match j, hj with | 0, _ => rfl | 1, _ => rfl | 2, _ => rfl | 3, _ => rfl | 4, _ => rfl)⟩

theorem kn1 : nxt 3 kO kT 0 = [1, 2] := by decide +kernel
theorem kn2 : nxt 3 kO kT 1 = [] := by decide +kernel
theorem kg3 : gph 3 kO kT = [[1, 2], [], [0]] := by decide +kernel
theorem kg2 : gph 2 kO kT = [[1, 2], []] := by decide +kernel
theorem kb2 : behs 2 kO kT [0] = [1, 2] := by decide +kernel
theorem kc3 : chk 3 (gph 3 kO kT) = 0 := by rw [kg3]; refine chk_good (by omega) (by omega) ?_; decide +kernel
theorem kc1 : chk 1 (gph 1 kO kT) = 10 := chk_bad (by omega) (by omega) (i := 0) (by omega) (by decide +kernel)
theorem kc0 : chk 0 (gph 0 kO kT) = 3 := rfl
theorem kr3 : (List.range 3).map (fun i => Value.bool (reach (gph 3 kO kT) [0] i)) = [.bool true, .bool true, .bool true] := by
  have h : (List.range 3).map (reach [[1, 2], [], [0]] [0]) = [true, true, true] := by decide +kernel
  have := congrArg (List.map Value.bool) h
  rw [kg3]
  simpa [List.map_map, Function.comp_def] using this
theorem kr2 : (List.range 2).map (fun i => Value.bool (reach (gph 2 kO kT) (behs 2 kO kT [0]) i)) = [.bool false, .bool true] := by
  have h : (List.range 2).map (reach [[1, 2], []] [1, 2]) = [false, true] := by decide +kernel
  have := congrArg (List.map Value.bool) h
  rw [kg2, kb2]
  simpa [List.map_map, Function.comp_def] using this

set_option maxHeartbeats 4000000 in
set_option maxRecDepth 100000 in
theorem known14_any (w : World) : Calls Try.prog 25 #[] w (TAns w) := by
  obtain ⟨w0, hw0⟩ : ∃ w0, w.alloc (.cells #[.int .i64 12, .int .i64 1, .int .i64 0, .int .i64 0, .int .i64 2, .int .i64 24, .int .i64 0, .int .i64 0, .int .i64 0, .int .i64 0, .int .i64 11, .int .i64 0, .int .i64 0, .int .i64 0, .int .i64 0] 79) = w0 := ⟨_, rfl⟩
  have RG := Lib.hid (show CW w0 (some ⟨w.heap.size, 0, none⟩) 3 3 kO kT from by rw [← hw0]; exact kcode w _)
  have HA := Lib.hid (show Below w.heap.size w w0 from by rw [← hw0]; exact alloc_ _ _)
  go_enter Try.func25, Try.ntmps25
  go_wp2_with fail
  refine (next_w 0 RG.out kn1 rfl).mono ?_
  rintro e w1 ⟨A1, c1, rfl, h1, b1⟩
  have Ra1 := Lib.hid (h1)
  have Rg1 := Lib.hid (RG.out.on b1)
  have HB1 := Lib.hid (to_ HA.out b1)
  clear b1 h1 RG HA
  go_wp2_with fail
  refine (ints_w rfl (Ra1.out.on (alloc_ _ _)) (IW.lit [1, 2] 2 (Blk.new w1 3 _) rfl rfl (by decide)) (by decide)).mono ?_
  rintro e w2 ⟨rfl, b2⟩
  have Rg2 := Lib.hid ((Rg1.out.on (alloc_ _ _)).on b2)
  have HB2 := Lib.hid (to_ (to_ HB1.out (alloc_ _ _)) b2)
  clear b2 Ra1 Rg1 HB1
  go_wp2_with fail
  refine (next_w 1 Rg2.out kn2 rfl).mono ?_
  rintro e w3 ⟨A3, c3, rfl, h3, b3⟩
  have Rg3 := Lib.hid (Rg2.out.on b3)
  have HB3 := Lib.hid (to_ HB2.out b3)
  clear b3 Rg2 HB2
  go_wp2_with fail
  refine (check_w Rg3.out kc3).mono ?_
  rintro e w4 ⟨rfl, b4⟩
  have Rg4 := Lib.hid (Rg3.out.on b4)
  have HB4 := Lib.hid (to_ HB3.out b4)
  clear b4 Rg3 HB3
  go_wp2_with fail
  refine (check_w (Cd.less Rg4.out (show 1 ≤ 3 by decide)) kc1).mono ?_
  rintro e w5 ⟨rfl, b5⟩
  have Rg5 := Lib.hid (Rg4.out.on b5)
  have HB5 := Lib.hid (to_ HB4.out b5)
  clear b5 Rg4 HB4
  go_wp2_with fail
  refine (check_w (show CW _ none 0 0 kO kT from ⟨Nat.le_refl _, Nat.zero_le _, fun i hi => by omega⟩) kc0).mono ?_
  rintro e w6 ⟨rfl, b6⟩
  have Rg6 := Lib.hid (Rg5.out.on b6)
  have HB6 := Lib.hid (to_ HB5.out b6)
  clear b6 Rg5 HB5
  go_wp2_with fail
  refine (live_w Rg6.out rfl (by decide)).mono ?_
  rintro e w7 ⟨A7, rfl, h7, b7⟩
  have Ra7 := Lib.hid (h7)
  have Rg7 := Lib.hid (Rg6.out.on b7)
  have HB7 := Lib.hid (to_ HB6.out b7)
  clear b7 h7 Rg6 HB6
  go_wp2_with fail
  refine (bools_w (Ra7.out.on (alloc_ _ _)) (BW.lit _ 3 (Blk.new w7 4 _) kr3.symm (by decide)) (by decide)).mono ?_
  rintro e w8 ⟨rfl, b8⟩
  have Rg8 := Lib.hid ((Rg7.out.on (alloc_ _ _)).on b8)
  have HB8 := Lib.hid (to_ (to_ HB7.out (alloc_ _ _)) b8)
  clear b8 Ra7 Rg7 HB7
  go_wp2_with fail
  refine (after_w (l := [0]) (M := 1) (Cd.less (Rg8.out.on (alloc_ _ _)) (show 2 ≤ 3 by decide)) rfl (IW.lit [0] 1 (Blk.new w8 3 _) rfl rfl (by decide)) rfl (by decide) (by decide)).mono ?_
  rintro e w9 ⟨A9, rfl, h9, b9⟩
  have Ra9 := Lib.hid (h9)
  have Rg9 := Lib.hid ((Rg8.out.on (alloc_ _ _)).on b9)
  have HB9 := Lib.hid (to_ (to_ HB8.out (alloc_ _ _)) b9)
  clear b9 h9 Rg8 HB8
  go_wp2_with fail
  refine (bools_w (Ra9.out.on (alloc_ _ _)) (BW.lit _ 2 (Blk.new w9 4 _) kr2.symm (by decide)) (by decide)).mono ?_
  rintro e w10 ⟨rfl, b10⟩
  have Rg10 := Lib.hid ((Rg9.out.on (alloc_ _ _)).on b10)
  have HB10 := Lib.hid (to_ (to_ HB9.out (alloc_ _ _)) b10)
  clear b10 Ra9 Rg9 HB9
  go_wp2_with fail
  go_ret
  exact ⟨rfl, HB10.out⟩
end Go.Proofs.Ytckpbdphilifoaa.By
