/-
  WALKS for the laws of layers 11 and 12: the calls in one form. WALK: known of layer 11's laws: it answers true.
-/
import Derived.Test.YtlfgnoicjogfpaaDc
import Derived.Test.YtlfgnoicjogfpaaDb
import Derived.Test.YtlfgnoicjogfpaaGp
import Derived.Test.YtlfgnoicjogfpaaCm
namespace Go.Proofs.Ytlfgnoicjogfpaa.By
open Go.RowKit
open Mem Gm Rf

/-- A graph of no more than n places, b in a row. -/
def Fits (g : List (List Int)) (n b : Nat) : Prop := g.length ≤ n ∧ ∀ i, i < g.length → (rowOf g i).length ≤ b
theorem sum_le (l : List Nat) (f : Nat → Nat) (b : Nat) (h : ∀ x ∈ l, f x ≤ b) : (l.map f).sum ≤ l.length * b := by
  induction l with
  | nil => simp
  | cons a l ih =>
    have h1 := h a (List.mem_cons_self)
    have h2 := ih fun x hx => h x (List.mem_cons_of_mem _ hx)
    rw [List.map_cons, List.sum_cons, List.length_cons, Nat.succ_mul]
    omega

theorem edges_le {g : List (List Int)} {b : Nat} (h : ∀ i, i < g.length → (rowOf g i).length ≤ b) : (edgesL g).length ≤ g.length * b := by
  unfold edgesL
  rw [List.length_flatMap]
  have := sum_le (List.range g.length) (fun a => (rowE g a (rowOf g a)).length) b fun x hx => by
    have h1 := h x (List.mem_range.1 hx)
    show (rowE g x (rowOf g x)).length ≤ b
    rw [rowE, List.length_map]
    exact Nat.le_trans (List.length_filter_le _ _) h1
  simpa using this
theorem Fits.small {g : List (List Int)} (h : Fits g 24 30) : Small g := ⟨by have := h.1; omega, by
  have h1 := edges_le h.2
  have h2 := Nat.mul_le_mul_right 30 h.1
  omega⟩
theorem Fits.rows {g : List (List Int)} (h : Fits g 24 30) (k : Nat) : (rowOf g k).length ≤ 1000 := by
  rcases Nat.lt_or_ge k g.length with h1 | h1
  · have := h.2 k h1; omega
  · unfold rowOf
    rw [List.getD_eq_getElem?_getD, List.getElem?_eq_none h1]; simp
theorem gr_fits (n : Nat) (R : Nat → Nat → Bool) (hn : n ≤ 24) : Fits (gr n R) 24 30 := ⟨by rw [gr_length]; exact hn, fun i hi => by
  rw [gr_length] at hi
  unfold rowOf
  rw [gr_row hi, List.length_map]
  have := List.length_filter_le (R i) (List.range n)
  rw [List.length_range] at this
  omega⟩
theorem Fits.clean {g : List (List Int)} (h : Fits g 24 30) : Fits (clean g) 24 30 := gr_fits _ _ h.1
theorem Fits.turn {g : List (List Int)} (h : Fits g 24 30) : Fits (turn g) 24 30 := gr_fits _ _ h.1

/-- Read at this world: a graph; numbers; which are members. -/
def GW (w : World) (v : Value) (g : List (List Int)) : Prop := Gr w w.heap.size v g
def IW (w : World) (v : Value) (l : List Int) : Prop := SlV w w.heap.size v (ints l)
def LW (w : World) (v : Value) (l : List Bool) : Prop := SlV w w.heap.size v (bls l)
theorem GW.on {w w' : World} {v : Value} {g : List (List Int)} (h : GW w v g) (hb : Below w.heap.size w w') : GW w' v g := (Gr.below h hb).more hb.size
theorem IW.on {w w' : World} {v : Value} {l : List Int} (h : IW w v l) (hb : Below w.heap.size w w') : IW w' v l := (SlV.below h hb).more hb.size
theorem LW.on {w w' : World} {v : Value} {l : List Bool} (h : LW w v l) (hb : Below w.heap.size w w') : LW w' v l := (SlV.below h hb).more hb.size
theorem to_ {w w' w'' : World} (h : Below w.heap.size w w') (k : Below w'.heap.size w' w'') : Below w.heap.size w w'' := h.trans (k.mono h.size)
theorem alloc_ (w : World) (o : Obj) : Below w.heap.size w (w.alloc o) := (Below.refl _ w).alloc (Nat.le_refl _) o
theorem drewN_ (w : World) (n : Nat) : Below w.heap.size w (w.drewN n) := below_drewN (Below.refl _ _) _

def IAns (L : Nat) (l : List Int) (w : World) (e : Ending) (w' : World) : Prop := ∃ A c, e = .returned (.slice A L c) ∧ IW w' (.slice A L c) l ∧ Below w.heap.size w w'
def OAns (L : Nat) (l : List Int) (x : Bool) (w : World) (e : Ending) (w' : World) : Prop := ∃ A c, e = .returned (.tuple #[.slice A L c, .bool x]) ∧ IW w' (.slice A L c) l ∧ Below w.heap.size w w'
def TAns (w : World) (e : Ending) (w' : World) : Prop := e = .returned (.bool true) ∧ Below w.heap.size w w'
def FAns (g : List (List Int)) (w : World) (e : Ending) (w' : World) : Prop := ∃ bl, e = .returned (.bool bl) ∧ (bl = true → Fits g 24 30) ∧ w = w'

/-- An order as numbers; none: there is none. -/
def coI (l : List Nat) : List Int := l.map fun (n : Nat) => (n : Int)
def oI (r : Option (List Nat)) : List Int := coI (r.getD [])
theorem OrdAns.form {r : Option (List Nat)} {w w' : World} {e : Ending} (h : OrdAns r w e w') : OAns (oI r).length (oI r) r.isSome w e w' := by
  obtain ⟨h1, h2⟩ := h
  cases r with
  | none => exact ⟨none, 0, h1, .nil, h2⟩
  | some l =>
    obtain ⟨A, c, h3, h4⟩ := h1
    have e1 : (oI (some l)).length = l.length := by simp [oI, coI]
    refine ⟨A, c, ?_, ?_, h2⟩
    · rw [h3, e1]; rfl
    · rw [e1]
      unfold IW
      rw [show ints (oI (some l)) = nats l from (nats_ints l).symm]
      exact h4

theorem rback_same (g : List (List Int)) (ins : List Bool) : ordV (turn g) ins = backV g ins := by
  unfold backV ordV
  rw [turn_length, turn_length, innG, gr_length]
  refine ordL_congr (fun a b ha hb => ?_) _ fun _ _ => rfl
  unfold RM
  rw [turn_E, turn_E, Bool.eq_iff_iff]
  simp only [Bool.and_eq_true, gr_E]
  constructor
  · rintro ⟨h1, h2, h3⟩; exact ⟨⟨hb, ha, h1, h3, h2⟩, h2, h3⟩
  · rintro ⟨⟨_, _, h1, _⟩, h2, h3⟩; exact ⟨h1, h2, h3⟩

section
variable (w : World) (A A2 : Option Addr) (c c2 N M L : Nat) (g : List (List Int)) (ins : List Bool) (fs : List Int)

theorem few_w (hN : g.length = N) (h : GW w (.slice A N c) g) : Calls Try.prog 14 #[.slice A N c] w (FAns g w) := by
  subst hN
  refine (few_any w _ A c g h).mono fun e w' hh => ?_
  obtain ⟨bl, h1, h2, h3⟩ := hh
  exact ⟨bl, h1, h2.1, h3⟩
theorem ints_w (hL : fs.length = L) (h : IW w (.slice A L c) fs) (h2 : IW w (.slice A2 L c2) fs) (hl : L ≤ 1000) : Calls Try.prog 20 #[.slice A L c, .slice A2 L c2] w (TAns w) := by
  subst hL
  refine (ints_same w _ _ A A2 c c2 fs h h2 (by omega)).mono fun e w' hh => ?_
  obtain ⟨h1, n, rfl⟩ := hh
  exact ⟨h1, below_drewN (Below.refl _ _) _⟩
theorem order_w (hN : g.length = N) (hM : ins.length = M) (hL : (oI (ordV g ins)).length = L) (h : GW w (.slice A N c) g) (hI : LW w (.slice A2 M c2) ins) (hs : Fits g 24 30) : Calls Try.prog 16 #[.slice A N c, .slice A2 M c2] w (OAns L (oI (ordV g ins)) (ordV g ins).isSome w) := by
  subst hL
  exact (Order_any A A2 c c2 M w.heap.size N g ins w hN h hM hI (Nat.le_refl _) hs.small (by have := hs.1; omega)).mono fun e w' hh => hh.form
theorem back_w (hN : g.length = N) (hM : ins.length = M) (hL : (oI (backV g ins)).length = L) (h : GW w (.slice A N c) g) (hI : LW w (.slice A2 M c2) ins) (hs : Fits g 24 30) : Calls Try.prog 18 #[.slice A N c, .slice A2 M c2] w (OAns L (oI (backV g ins)) (backV g ins).isSome w) := by
  subst hL
  exact (Back_any A A2 c c2 M w.heap.size N g ins w hN h hM hI (Nat.le_refl _) hs.small (by have := hs.1; omega)).mono fun e w' hh => hh.form
theorem rorder_w (hN : g.length = N) (hM : ins.length = M) (hL : (oI (ordV g ins)).length = L) (h : GW w (.slice A N c) g) (hI : LW w (.slice A2 M c2) ins) (hs : Fits g 24 30) : Calls Try.prog 17 #[.slice A N c, .slice A2 M c2] w (OAns L (oI (ordV g ins)) (ordV g ins).isSome w) := by
  subst hL
  exact (rorder_any w A A2 c c2 M N g ins hN h hM hI (by have := hs.1; omega) hs.rows).mono fun e w' hh => hh.form
set_option maxHeartbeats 1000000 in
set_option maxRecDepth 100000 in
theorem rback_w (hN : g.length = N) (hM : ins.length = M) (hL : (oI (backV g ins)).length = L) (h : GW w (.slice A N c) g) (hI : LW w (.slice A2 M c2) ins) (hs : Fits g 24 30) : Calls Try.prog 19 #[.slice A N c, .slice A2 M c2] w (OAns L (oI (backV g ins)) (backV g ins).isSome w) := by
  have HT := Lib.hid (rturn_any w A c g (by rw [hN]; exact h) hs.small.1)
  unfold CleanAns at HT
  rw [turn_length, hN] at HT
  have HO := Lib.hid (fun w1 A1 c1 (h1 : Gr w1 w1.heap.size (.slice A1 N c1) (turn g)) (hb : Below w.heap.size w w1) => rorder_w w1 A1 A2 c1 c2 N M L (turn g) ins (by rw [turn_length]; exact hN) hM (by rw [rback_same]; exact hL) h1 (hI.on hb) hs.turn)
  rw [rback_same] at HO
  unfold OAns at HO ⊢
  clear h hI
  generalize oI (backV g ins) = l at *
  generalize (backV g ins).isSome = x at *
  go_enter Try.func19, Try.ntmps19
  go_wp2_with fail
  refine HT.out.mono ?_
  rintro e w1 ⟨A1, c1, rfl, h1, b1⟩
  have HB1 := Lib.hid b1
  have HC := Lib.hid (HO.out w1 A1 c1 h1 b1)
  clear h1 b1 HO HT
  go_wp2_with fail
  refine HC.out.mono ?_
  rintro e w2 ⟨A2', c2', rfl, h2, b2⟩
  have HI2 := Lib.hid h2
  have HB2 := Lib.hid (to_ HB1.out b2)
  clear h2 b2
  go_wp2
  refine bodyPost_ret (results_tmp2 rfl _ _ _) rfl ?_
  exact ⟨_, _, rfl, HI2.out, HB2.out⟩
theorem on_w (hN : g.length = N) (hM : ins.length = M) (hL : (ronL N ins (witG g ins) N).length = L) (h : GW w (.slice A N c) g) (hI : LW w (.slice A2 M c2) ins) (hs : Fits g 24 30) : Calls Try.prog 21 #[.slice A N c, .slice A2 M c2] w (IAns L (coI (ronL N ins (witG g ins) N)) w) := by
  subst hL
  refine (On_any A A2 c c2 M w.heap.size N g ins w hN h hM hI (Nat.le_refl _) hs.small (by have := hs.1; omega)).mono fun e w' hh => ?_
  obtain ⟨A', c', h1, h2, h3⟩ := hh
  rw [nats_ints] at h2
  exact ⟨A', c', h1, h2, h3⟩
theorem ron_w (hN : g.length = N) (hM : ins.length = M) (hL : (ronL N ins (witG g ins) N).length = L) (h : GW w (.slice A N c) g) (hI : LW w (.slice A2 M c2) ins) (hs : Fits g 24 30) : Calls Try.prog 22 #[.slice A N c, .slice A2 M c2] w (IAns L (coI (ronL N ins (witG g ins) N)) w) := by
  subst hL
  refine (ron_any w A A2 c c2 M N g ins hN h hM hI (by have := hs.1; omega) hs.rows).mono fun e w' hh => ?_
  obtain ⟨A', c', h1, h2, h3⟩ := hh
  rw [nats_ints] at h2
  exact ⟨A', c', h1, h2, h3⟩
end
end Go.Proofs.Ytlfgnoicjogfpaa.By

namespace Go.Proofs.Ytlfgnoicjogfpaa.By
open Go.RowKit
open Mem Gm Rf

/-- Numbers, and a graph, that are built of literals. -/
theorem IW.built {w : World} {b : Nat} {t : TypeId} (l : List Int) {cs : Array Value} (hb : Blk w b t cs) (hc : cs.toList = ints l) (hm : l.length ≤ 1000) : IW w (.slice (some ⟨b, 0, none⟩) l.length l.length) l := by
  have hlen : (ints l).length = l.length := by simp [ints]
  have : SlV w w.heap.size (.slice (some ⟨b, 0, none⟩) (ints l).length l.length) (ints l) :=
    .at_ _ _ _ (by rw [hlen]; exact Nat.le_refl _) (by unfold maxLen; omega) fun j u hu => ⟨hb.lt, by rw [add_plain, Nat.zero_add, hb.cell, ← Array.getElem?_toList, hc]; exact hu⟩
  rwa [hlen] at this
theorem LW.built {w : World} {b : Nat} {t : TypeId} (l : List Bool) {cs : Array Value} (hb : Blk w b t cs) (hc : cs.toList = bls l) (n : Nat) (hn : l.length = n) (hm : n ≤ 1000) : LW w (.slice (some ⟨b, 0, none⟩) n n) l := by
  subst hn
  have hlen : (bls l).length = l.length := by simp [bls]
  have : SlV w w.heap.size (.slice (some ⟨b, 0, none⟩) (bls l).length l.length) (bls l) :=
    .at_ _ _ _ (by rw [hlen]; exact Nat.le_refl _) (by unfold maxLen; omega) fun j u hu => ⟨hb.lt, by rw [add_plain, Nat.zero_add, hb.cell, ← Array.getElem?_toList, hc]; exact hu⟩
  rwa [hlen] at this
theorem GW.built {w : World} {b : Nat} {t : TypeId} (g : List (List Int)) {cs : Array Value} (hb : Blk w b t cs) (hl : cs.size = g.length) (hm : g.length ≤ 1000)
    (h : ∀ i rv, cs[i]? = some rv → ∃ A c, rv = .slice A (rowOf g i).length c ∧ IW w rv (rowOf g i)) : GW w (.slice (some ⟨b, 0, none⟩) g.length g.length) g := by
  refine ⟨cs.toList, ?_, by simpa using hl, fun i rv hi => ?_⟩
  · have : SlV w w.heap.size (.slice (some ⟨b, 0, none⟩) cs.toList.length g.length) cs.toList :=
      .at_ _ _ _ (by simp [hl]) (by unfold maxLen; omega) fun j u hu => ⟨hb.lt, by rw [add_plain, Nat.zero_add, hb.cell, ← Array.getElem?_toList]; exact hu⟩
    rwa [show cs.toList.length = g.length by simpa using hl] at this
  · obtain ⟨A, c, e, hs⟩ := h i rv (by rw [← Array.getElem?_toList]; exact hi)
    exact ⟨A, c, e, hs⟩
theorem IW.emp (w : World) : IW w (.slice none 0 0) [] := .nil
theorem IW.lit {w : World} {b : Nat} {t : TypeId} {cs : Array Value} (l : List Int) (n : Nat) (hb : Blk w b t cs) (hc : cs.toList = ints l) (hn : l.length = n) (hm : n ≤ 1000) : IW w (.slice (some ⟨b, 0, none⟩) n n) l := by
  subst hn; exact IW.built l hb hc hm
theorem size_alloc (w : World) (o : Obj) : (w.alloc o).heap.size = w.heap.size + 1 := by simp
/-- Three rows of literals, and the list of them. -/
theorem GW.three {w : World} {b : Nat} {u : TypeId} {r0 r1 r2 : Value} {l0 l1 l2 : List Int} (hb : Blk w b u #[r0, r1, r2]) (h0 : ∃ A c, r0 = .slice A l0.length c) (h1 : ∃ A c, r1 = .slice A l1.length c) (h2 : ∃ A c, r2 = .slice A l2.length c)
    (i0 : IW w r0 l0) (i1 : IW w r1 l1) (i2 : IW w r2 l2) : GW w (.slice (some ⟨b, 0, none⟩) 3 3) [l0, l1, l2] := by
  refine GW.built [l0, l1, l2] hb rfl (by simp) fun i rv hi => ?_
  match i, hi with
  | 0, hi => obtain ⟨A, c, e⟩ := h0; obtain rfl : r0 = rv := (by simpa using hi); exact ⟨A, c, e, i0⟩
  | 1, hi => obtain ⟨A, c, e⟩ := h1; obtain rfl : r1 = rv := (by simpa using hi); exact ⟨A, c, e, i1⟩
  | 2, hi => obtain ⟨A, c, e⟩ := h2; obtain rfl : r2 = rv := (by simpa using hi); exact ⟨A, c, e, i2⟩
  | i + 3, hi => simp at hi
theorem GW.two {w : World} {b : Nat} {u : TypeId} {r0 r1 : Value} {l0 l1 : List Int} (hb : Blk w b u #[r0, r1]) (h0 : ∃ A c, r0 = .slice A l0.length c) (h1 : ∃ A c, r1 = .slice A l1.length c)
    (i0 : IW w r0 l0) (i1 : IW w r1 l1) : GW w (.slice (some ⟨b, 0, none⟩) 2 2) [l0, l1] := by
  refine GW.built [l0, l1] hb rfl (by simp) fun i rv hi => ?_
  match i, hi with
  | 0, hi => obtain ⟨A, c, e⟩ := h0; obtain rfl : r0 = rv := (by simpa using hi); exact ⟨A, c, e, i0⟩
  | 1, hi => obtain ⟨A, c, e⟩ := h1; obtain rfl : r1 = rv := (by simpa using hi); exact ⟨A, c, e, i1⟩
  | i + 2, hi => simp at hi
theorem GW.one {w : World} {b : Nat} {u : TypeId} {r0 : Value} {l0 : List Int} (hb : Blk w b u #[r0]) (h0 : ∃ A c, r0 = .slice A l0.length c) (i0 : IW w r0 l0) : GW w (.slice (some ⟨b, 0, none⟩) 1 1) [l0] := by
  refine GW.built [l0] hb rfl (by simp) fun i rv hi => ?_
  match i, hi with
  | 0, hi => obtain ⟨A, c, e⟩ := h0; obtain rfl : r0 = rv := (by simpa using hi); exact ⟨A, c, e, i0⟩
  | i + 1, hi => simp at hi
/-- Rows of literals. -/
theorem built_ab (w : World) (l0 l1 : List Int) (n0 n1 : Nat) (t0 t1 u : TypeId) (h0 : l0.length = n0) (h1 : l1.length = n1) (m0 : n0 ≤ 1000) (m1 : n1 ≤ 1000) :
    GW (((w.alloc (.cells (ints l0).toArray t0)).alloc (.cells (ints l1).toArray t1)).alloc (.cells #[.slice (some ⟨w.heap.size, 0, none⟩) n0 n0, .slice (some ⟨w.heap.size + 1, 0, none⟩) n1 n1, .slice none 0 0] u)) (.slice (some ⟨w.heap.size + 1 + 1, 0, none⟩) 3 3) [l0, l1, []] := by
  have hb := Blk.new ((w.alloc (.cells (ints l0).toArray t0)).alloc (.cells (ints l1).toArray t1)) u #[.slice (some ⟨w.heap.size, 0, none⟩) n0 n0, .slice (some ⟨w.heap.size + 1, 0, none⟩) n1 n1, .slice none 0 0]
  rw [size_alloc, size_alloc] at hb
  have hb1 := (Blk.new (w.alloc (.cells (ints l0).toArray t0)) t1 (ints l1).toArray)
  rw [size_alloc] at hb1
  refine GW.three hb ⟨_, _, by rw [h0]⟩ ⟨_, _, by rw [h1]⟩ ⟨_, _, rfl⟩ ?_ ?_ (IW.emp _)
  · exact IW.lit l0 n0 (((Blk.new w t0 _).alloc _).alloc _) (by simp) h0 m0
  · exact IW.lit l1 n1 (hb1.alloc _) (by simp) h1 m1
theorem built_2 (w : World) (l0 l1 : List Int) (n0 n1 : Nat) (t0 t1 u : TypeId) (h0 : l0.length = n0) (h1 : l1.length = n1) (m0 : n0 ≤ 1000) (m1 : n1 ≤ 1000) :
    GW (((w.alloc (.cells (ints l0).toArray t0)).alloc (.cells (ints l1).toArray t1)).alloc (.cells #[.slice (some ⟨w.heap.size, 0, none⟩) n0 n0, .slice (some ⟨w.heap.size + 1, 0, none⟩) n1 n1] u)) (.slice (some ⟨w.heap.size + 1 + 1, 0, none⟩) 2 2) [l0, l1] := by
  have hb := Blk.new ((w.alloc (.cells (ints l0).toArray t0)).alloc (.cells (ints l1).toArray t1)) u #[.slice (some ⟨w.heap.size, 0, none⟩) n0 n0, .slice (some ⟨w.heap.size + 1, 0, none⟩) n1 n1]
  rw [size_alloc, size_alloc] at hb
  have hb1 := (Blk.new (w.alloc (.cells (ints l0).toArray t0)) t1 (ints l1).toArray)
  rw [size_alloc] at hb1
  refine GW.two hb ⟨_, _, by rw [h0]⟩ ⟨_, _, by rw [h1]⟩ ?_ ?_
  · exact IW.lit l0 n0 (((Blk.new w t0 _).alloc _).alloc _) (by simp) h0 m0
  · exact IW.lit l1 n1 (hb1.alloc _) (by simp) h1 m1
theorem built_3 (w : World) (l0 l1 l2 : List Int) (n0 n1 n2 : Nat) (t0 t1 t2 u : TypeId) (h0 : l0.length = n0) (h1 : l1.length = n1) (h2 : l2.length = n2) (m0 : n0 ≤ 1000) (m1 : n1 ≤ 1000) (m2 : n2 ≤ 1000) :
    GW ((((w.alloc (.cells (ints l0).toArray t0)).alloc (.cells (ints l1).toArray t1)).alloc (.cells (ints l2).toArray t2)).alloc (.cells #[.slice (some ⟨w.heap.size, 0, none⟩) n0 n0, .slice (some ⟨w.heap.size + 1, 0, none⟩) n1 n1, .slice (some ⟨w.heap.size + 1 + 1, 0, none⟩) n2 n2] u)) (.slice (some ⟨w.heap.size + 1 + 1 + 1, 0, none⟩) 3 3) [l0, l1, l2] := by
  have hb := Blk.new (((w.alloc (.cells (ints l0).toArray t0)).alloc (.cells (ints l1).toArray t1)).alloc (.cells (ints l2).toArray t2)) u #[.slice (some ⟨w.heap.size, 0, none⟩) n0 n0, .slice (some ⟨w.heap.size + 1, 0, none⟩) n1 n1, .slice (some ⟨w.heap.size + 1 + 1, 0, none⟩) n2 n2]
  rw [size_alloc, size_alloc, size_alloc] at hb
  have hb1 := (Blk.new (w.alloc (.cells (ints l0).toArray t0)) t1 (ints l1).toArray)
  rw [size_alloc] at hb1
  have hb2 := (Blk.new ((w.alloc (.cells (ints l0).toArray t0)).alloc (.cells (ints l1).toArray t1)) t2 (ints l2).toArray)
  rw [size_alloc, size_alloc] at hb2
  refine GW.three hb ⟨_, _, by rw [h0]⟩ ⟨_, _, by rw [h1]⟩ ⟨_, _, by rw [h2]⟩ ?_ ?_ ?_
  · exact IW.lit l0 n0 ((((Blk.new w t0 _).alloc _).alloc _).alloc _) (by simp) h0 m0
  · exact IW.lit l1 n1 ((hb1.alloc _).alloc _) (by simp) h1 m1
  · exact IW.lit l2 n2 (hb2.alloc _) (by simp) h2 m2
theorem alloc2_ (w : World) (a b : Obj) : Below w.heap.size w ((w.alloc a).alloc b) := to_ (alloc_ w a) (alloc_ _ b)
theorem alloc3_ (w : World) (a b c : Obj) : Below w.heap.size w (((w.alloc a).alloc b).alloc c) := to_ (to_ (alloc_ w a) (alloc_ _ b)) (alloc_ _ c)
theorem alloc4_ (w : World) (a b c d : Obj) : Below w.heap.size w ((((w.alloc a).alloc b).alloc c).alloc d) := to_ (alloc3_ w a b c) (alloc_ _ d)

theorem lit1 : ordV [[2], [0], []] [true, true, true] = some [1, 0, 2] := by decide +kernel
theorem lit2 : backV [[2], [0], []] [true, true, true] = some [2, 0, 1] := by decide +kernel
theorem lit3 : ordV [[1], [0]] [true, true, true] = none := by decide +kernel
theorem lit4 : ronL 3 [true, true, true] (witG [[1], [0], [0]] [true, true, true]) 3 = [0, 1] := by decide +kernel
theorem fit1 : Fits [[2], [0], []] 24 30 := by unfold Fits; decide +kernel
theorem fit3 : Fits [[1], [0]] 24 30 := by unfold Fits; decide +kernel
theorem fit4 : Fits [[1], [0], [0]] 24 30 := by unfold Fits; decide +kernel
section
variable (w : World) (A A2 : Option Addr) (c c2 : Nat)
theorem lit_order1 (h : GW w (.slice A 3 c) [[2], [0], []]) (hI : LW w (.slice A2 3 c2) [true, true, true]) : Calls Try.prog 16 #[.slice A 3 c, .slice A2 3 c2] w (OAns 3 [1, 0, 2] true w) := by
  have := order_w w A A2 c c2 3 3 3 [[2], [0], []] [true, true, true] rfl rfl (by rw [lit1]; rfl) h hI fit1
  rw [lit1] at this; exact this
theorem lit_back1 (h : GW w (.slice A 3 c) [[2], [0], []]) (hI : LW w (.slice A2 3 c2) [true, true, true]) : Calls Try.prog 18 #[.slice A 3 c, .slice A2 3 c2] w (OAns 3 [2, 0, 1] true w) := by
  have := back_w w A A2 c c2 3 3 3 [[2], [0], []] [true, true, true] rfl rfl (by rw [lit2]; rfl) h hI fit1
  rw [lit2] at this; exact this
theorem lit_order2 (h : GW w (.slice A 2 c) [[1], [0]]) (hI : LW w (.slice A2 3 c2) [true, true, true]) : Calls Try.prog 16 #[.slice A 2 c, .slice A2 3 c2] w (OAns 0 [] false w) := by
  have := order_w w A A2 c c2 2 3 0 [[1], [0]] [true, true, true] rfl rfl (by rw [lit3]; rfl) h hI fit3
  rw [lit3] at this; exact this
theorem lit_on (h : GW w (.slice A 3 c) [[1], [0], [0]]) (hI : LW w (.slice A2 3 c2) [true, true, true]) : Calls Try.prog 21 #[.slice A 3 c, .slice A2 3 c2] w (IAns 2 [0, 1] w) := by
  have := on_w w A A2 c c2 3 3 2 [[1], [0], [0]] [true, true, true] rfl rfl (by rw [lit4]; rfl) h hI fit4
  rw [lit4] at this; exact this
end

set_option maxHeartbeats 2000000 in
set_option maxRecDepth 100000 in
theorem known11_any (w : World) : Calls Try.prog 15 #[] w (TAns w) := by
  obtain ⟨w0, hw0⟩ : ∃ w0, w.alloc (.cells #[.bool true, .bool true, .bool true] 4) = w0 := ⟨_, rfl⟩
  have RA := Lib.hid (show LW w0 (.slice (some ⟨w.heap.size, 0, none⟩) 3 3) [true, true, true] from by rw [← hw0]; exact LW.built [true, true, true] (Blk.new w 4 _) rfl 3 rfl (by decide))
  have HA := Lib.hid (show Below w.heap.size w w0 from by rw [← hw0]; exact alloc_ _ _)
  go_enter Try.func15, Try.ntmps15
  go_wp2_with fail
  refine (lit_order1 _ _ _ _ _ (built_ab _ [2] [0] 1 1 3 3 26 rfl rfl (by decide) (by decide)) (RA.out.on (alloc3_ _ _ _ _))).mono ?_
  rintro e w1 ⟨A1, c1, rfl, h1, b1⟩
  have Ra1 := Lib.hid (h1)
  have Rm1 := Lib.hid ((RA.out.on (alloc3_ _ _ _ _)).on b1)
  have HB1 := Lib.hid (to_ (to_ HA.out (alloc3_ _ _ _ _)) b1)
  clear b1 h1 RA HA
  go_wp2_with fail
  refine (lit_back1 _ _ _ _ _ (built_ab _ [2] [0] 1 1 3 3 26 rfl rfl (by decide) (by decide)) (Rm1.out.on (alloc3_ _ _ _ _))).mono ?_
  rintro e w2 ⟨A2, c2, rfl, h2, b2⟩
  have Rb2 := Lib.hid (h2)
  have Ra2 := Lib.hid ((Ra1.out.on (alloc3_ _ _ _ _)).on b2)
  have Rm2 := Lib.hid ((Rm1.out.on (alloc3_ _ _ _ _)).on b2)
  have HB2 := Lib.hid (to_ (to_ HB1.out (alloc3_ _ _ _ _)) b2)
  clear b2 h2 Ra1 Rm1 HB1
  go_wp2_with fail
  refine (lit_order2 _ _ _ _ _ (built_2 _ [1] [0] 1 1 3 3 26 rfl rfl (by decide) (by decide)) (Rm2.out.on (alloc3_ _ _ _ _))).mono ?_
  rintro e w3 ⟨A3, c3, rfl, -, b3⟩
  have Rb3 := Lib.hid ((Rb2.out.on (alloc3_ _ _ _ _)).on b3)
  have Ra3 := Lib.hid ((Ra2.out.on (alloc3_ _ _ _ _)).on b3)
  have Rm3 := Lib.hid ((Rm2.out.on (alloc3_ _ _ _ _)).on b3)
  have HB3 := Lib.hid (to_ (to_ HB2.out (alloc3_ _ _ _ _)) b3)
  clear b3 Rb2 Ra2 Rm2 HB2
  go_wp2_with fail
  refine (ints_w _ _ _ _ _ 3 [1, 0, 2] rfl (Ra3.out.on (alloc_ _ _)) (IW.lit [1, 0, 2] 3 (Blk.new w3 3 _) rfl rfl (by decide)) (by decide)).mono ?_
  rintro e w4 ⟨rfl, b4⟩
  have Rb4 := Lib.hid ((Rb3.out.on (alloc_ _ _)).on b4)
  have Ra4 := Lib.hid ((Ra3.out.on (alloc_ _ _)).on b4)
  have Rm4 := Lib.hid ((Rm3.out.on (alloc_ _ _)).on b4)
  have HB4 := Lib.hid (to_ (to_ HB3.out (alloc_ _ _)) b4)
  clear b4 Rb3 Ra3 Rm3 HB3
  go_wp2_with fail
  refine (ints_w _ _ _ _ _ 3 [2, 0, 1] rfl (Rb4.out.on (alloc_ _ _)) (IW.lit [2, 0, 1] 3 (Blk.new w4 3 _) rfl rfl (by decide)) (by decide)).mono ?_
  rintro e w5 ⟨rfl, b5⟩
  have Rb5 := Lib.hid ((Rb4.out.on (alloc_ _ _)).on b5)
  have Ra5 := Lib.hid ((Ra4.out.on (alloc_ _ _)).on b5)
  have Rm5 := Lib.hid ((Rm4.out.on (alloc_ _ _)).on b5)
  have HB5 := Lib.hid (to_ (to_ HB4.out (alloc_ _ _)) b5)
  clear b5 Rb4 Ra4 Rm4 HB4
  go_wp2_with fail
  refine (lit_on _ _ _ _ _ (built_3 _ [1] [0] [0] 1 1 1 3 3 3 26 rfl rfl rfl (by decide) (by decide) (by decide)) (Rm5.out.on (alloc4_ _ _ _ _ _))).mono ?_
  rintro e w6 ⟨A6, c6, rfl, h6, b6⟩
  have Ro6 := Lib.hid (h6)
  have Rb6 := Lib.hid ((Rb5.out.on (alloc4_ _ _ _ _ _)).on b6)
  have Ra6 := Lib.hid ((Ra5.out.on (alloc4_ _ _ _ _ _)).on b6)
  have Rm6 := Lib.hid ((Rm5.out.on (alloc4_ _ _ _ _ _)).on b6)
  have HB6 := Lib.hid (to_ (to_ HB5.out (alloc4_ _ _ _ _ _)) b6)
  clear b6 h6 Rb5 Ra5 Rm5 HB5
  go_wp2_with fail
  refine (ints_w _ _ _ _ _ 2 [0, 1] rfl (Ro6.out.on (alloc_ _ _)) (IW.lit [0, 1] 2 (Blk.new w6 3 _) rfl rfl (by decide)) (by decide)).mono ?_
  rintro e w7 ⟨rfl, b7⟩
  have Ro7 := Lib.hid ((Ro6.out.on (alloc_ _ _)).on b7)
  have Rb7 := Lib.hid ((Rb6.out.on (alloc_ _ _)).on b7)
  have Ra7 := Lib.hid ((Ra6.out.on (alloc_ _ _)).on b7)
  have Rm7 := Lib.hid ((Rm6.out.on (alloc_ _ _)).on b7)
  have HB7 := Lib.hid (to_ (to_ HB6.out (alloc_ _ _)) b7)
  clear b7 Ro6 Rb6 Ra6 Rm6 HB6
  go_wp2_with fail
  go_ret
  exact ⟨rfl, HB7.out⟩
end Go.Proofs.Ytlfgnoicjogfpaa.By
