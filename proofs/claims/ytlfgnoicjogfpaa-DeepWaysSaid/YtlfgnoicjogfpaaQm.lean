/-
  A PILE, of no program: numbers with keys, the least above; how a thing goes up, and down. WORDS FOR MEMORY of layer 6: what an object's blocks are; a pile as it lies in memory.
-/
import Derived.Test.YtlfgnoicjogfpaaZe
import Derived.Test.YtlfgnoicjogfpaaRows
import Derived.Maps.OwnSet
namespace Go.Proofs.Ytlfgnoicjogfpaa.Hp

abbrev It := Int × Int

/-- Is x fore of y: by key, then by id. -/
def fore (x y : It) : Bool := if x.2 = y.2 then decide (x.1 < y.1) else decide (x.2 < y.2)
def le (x y : It) : Prop := fore y x = false

theorem fore_iff (x y : It) : fore x y = true ↔ x.2 < y.2 ∨ (x.2 = y.2 ∧ x.1 < y.1) := by
  unfold fore
  split
  · simp; omega
  · simp; omega
theorem le_iff (x y : It) : le x y ↔ x.2 < y.2 ∨ (x.2 = y.2 ∧ x.1 ≤ y.1) := by
  unfold le
  rw [← Bool.not_eq_true, fore_iff]
  omega
theorem le_refl (x : It) : le x x := by rw [le_iff]; omega
theorem le_trans {x y z : It} (h : le x y) (k : le y z) : le x z := by rw [le_iff] at *; omega
theorem le_of {x y : It} (h : fore x y = true) : le x y := by rw [fore_iff] at h; rw [le_iff]; omega
theorem le_antisymm {x y : It} (h : le x y) (k : le y x) : x = y := by
  rw [le_iff] at *
  exact Prod.ext (by omega) (by omega)
theorem fore_of {x y : It} (h : le x y) (hne : x ≠ y) : fore x y = true := by
  cases ha : fore x y with
  | true => rfl
  | false => exact absurd (le_antisymm h ha) hne

def swp (f : Nat → It) (i j k : Nat) : It := if k = i then f j else if k = j then f i else f k
theorem swp_l (f : Nat → It) (i j : Nat) : swp f i j i = f j := by unfold swp; rw [if_pos rfl]
theorem swp_r (f : Nat → It) (i j : Nat) : swp f i j j = f i := by
  unfold swp
  split
  · rename_i h; rw [h]
  · rw [if_pos rfl]
theorem swp_o (f : Nat → It) {i j k : Nat} (hi : k ≠ i) (hj : k ≠ j) : swp f i j k = f k := by unfold swp; rw [if_neg hi, if_neg hj]

/-- The same things among the first m; the others as they were. -/
def Same (m : Nat) (f f' : Nat → It) : Prop := (∀ x, (∃ k, k < m ∧ f k = x) ↔ ∃ k, k < m ∧ f' k = x) ∧ ∀ k, m ≤ k → f' k = f k

theorem Same.refl (m : Nat) (f : Nat → It) : Same m f f := ⟨fun _ => Iff.rfl, fun _ _ => rfl⟩
theorem Same.trans {m : Nat} {f g h : Nat → It} (a : Same m f g) (b : Same m g h) : Same m f h :=
  ⟨fun x => (a.1 x).trans (b.1 x), fun k hk => (b.2 k hk).trans (a.2 k hk)⟩
theorem same_swp {m : Nat} (f : Nat → It) {i j : Nat} (hi : i < m) (hj : j < m) : Same m f (swp f i j) := by
  refine ⟨fun x => ⟨?_, ?_⟩, fun k hk => swp_o f (by omega) (by omega)⟩
  · rintro ⟨k, hk, rfl⟩
    by_cases h1 : k = i
    · exact ⟨j, hj, by rw [swp_r, h1]⟩
    · by_cases h2 : k = j
      · exact ⟨i, hi, by rw [swp_l, h2]⟩
      · exact ⟨k, hk, swp_o f h1 h2⟩
  · rintro ⟨k, hk, rfl⟩
    by_cases h1 : k = i
    · exact ⟨j, hj, by rw [h1, swp_l]⟩
    · by_cases h2 : k = j
      · exact ⟨i, hi, by rw [h2, swp_r]⟩
      · exact ⟨k, hk, (swp_o f h1 h2).symm⟩
theorem Same.more {m n : Nat} {f f' : Nat → It} (h : Same m f f') (hn : m ≤ n) : Same n f f' := by
  refine ⟨fun x => ⟨?_, ?_⟩, fun k hk => h.2 k (by omega)⟩
  · rintro ⟨k, hk, e⟩
    by_cases hm : k < m
    · obtain ⟨k', a, b⟩ := (h.1 x).1 ⟨k, hm, e⟩
      exact ⟨k', by omega, b⟩
    · exact ⟨k, hk, by rw [h.2 k (by omega)]; exact e⟩
  · rintro ⟨k, hk, e⟩
    by_cases hm : k < m
    · obtain ⟨k', a, b⟩ := (h.1 x).2 ⟨k, hm, e⟩
      exact ⟨k', by omega, b⟩
    · exact ⟨k, hk, by rw [← h.2 k (by omega)]; exact e⟩

def Heap (n : Nat) (f : Nat → It) : Prop := ∀ c, 0 < c → c < n → le (f ((c - 1) / 2)) (f c)

theorem Heap.least {n : Nat} {f : Nat → It} (h : Heap n f) : ∀ k, k < n → le (f 0) (f k) := by
  intro k
  induction k using Nat.strongRecOn with
  | _ k ih =>
    intro hk
    by_cases h0 : k = 0
    · subst h0; exact le_refl _
    · exact le_trans (ih ((k - 1) / 2) (by omega) (by omega)) (h k (by omega) hk)
theorem Heap.less {n m : Nat} {f : Nat → It} (h : Heap n f) (hm : m ≤ n) : Heap m f := fun c h0 hc => h c h0 (by omega)
theorem Heap.congr {n : Nat} {f g : Nat → It} (h : Heap n f) (he : ∀ k, k < n → g k = f k) : Heap n g := fun c h0 hc => by
  rw [he c hc, he _ (by omega)]; exact h c h0 hc

/-- All is in order, but for what is above j. -/
def UInv (n : Nat) (f : Nat → It) (j : Nat) : Prop :=
  (∀ c, 0 < c → c < n → c ≠ j → le (f ((c - 1) / 2)) (f c)) ∧ (∀ c, 0 < c → c < n → (c - 1) / 2 = j → 0 < j → le (f ((j - 1) / 2)) (f c))

theorem up_start {n : Nat} {f g : Nat → It} (h : Heap n f) (he : ∀ k, k < n → g k = f k) : UInv (n + 1) g n := by
  refine ⟨fun c h0 hc hne => ?_, fun c h0 hc hp _ => by omega⟩
  rw [he c (by omega), he _ (by omega)]
  exact h c h0 (by omega)
theorem up_stop0 {n : Nat} {f : Nat → It} (h : UInv n f 0) : Heap n f := fun c h0 hc => h.1 c h0 hc (by omega)
theorem up_stop {n j : Nat} {f : Nat → It} (h : UInv n f j) (ha : fore (f j) (f ((j - 1) / 2)) = false) : Heap n f := fun c h0 hc => by
  by_cases hcj : c = j
  · subst hcj; exact ha
  · exact h.1 c h0 hc hcj
theorem up_step {n j : Nat} {f : Nat → It} (h : UInv n f j) (hj : j < n) (h0 : 0 < j) (ha : fore (f j) (f ((j - 1) / 2)) = true) : UInv n (swp f ((j - 1) / 2) j) ((j - 1) / 2) := by
  obtain ⟨p, hp⟩ : ∃ p, p = (j - 1) / 2 := ⟨_, rfl⟩
  rw [← hp] at ha ⊢
  have hpj : p ≠ j := by omega
  refine ⟨fun c hc0 hc hne => ?_, fun c hc0 hc hpar hp0 => ?_⟩
  · by_cases hcj : c = j
    · subst hcj
      rw [← hp, swp_l, swp_r]
      exact le_of ha
    · rw [swp_o f hne hcj]
      by_cases h1 : (c - 1) / 2 = j
      · rw [h1, swp_r]
        have := h.2 c hc0 hc h1 h0
        rwa [← hp] at this
      · by_cases h2 : (c - 1) / 2 = p
        · rw [h2, swp_l]
          have := h.1 c hc0 hc hcj
          rw [h2] at this
          exact le_trans (le_of ha) this
        · rw [swp_o f h2 h1]
          exact h.1 c hc0 hc hcj
  · rw [swp_o f (by omega) (by omega)]
    have hpp := h.1 p hp0 (by omega) hpj
    by_cases hcj : c = j
    · subst hcj
      rw [swp_r]
      exact hpp
    · rw [swp_o f (by omega) hcj]
      have := h.1 c hc0 hc hcj
      rw [hpar] at this
      exact le_trans hpp this

/-- All is in order, but for what is below i (and, if i is where it began, what is above i). -/
def DInv (m : Nat) (f : Nat → It) (i i0 : Nat) : Prop :=
  (∀ c, 0 < c → c < m → (c - 1) / 2 ≠ i → (c = i → i ≠ i0) → le (f ((c - 1) / 2)) (f c)) ∧ (∀ c, 0 < c → c < m → (c - 1) / 2 = i → 0 < i → le (f ((i - 1) / 2)) (f c))

/-- .. and below i too. -/
def DEnd (m : Nat) (f : Nat → It) (i i0 : Nat) : Prop :=
  (∀ c, 0 < c → c < m → (c = i → i ≠ i0) → le (f ((c - 1) / 2)) (f c)) ∧ (∀ c, 0 < c → c < m → (c - 1) / 2 = i → 0 < i → le (f ((i - 1) / 2)) (f c))

/-- j is a least one below i. -/
def Min (m : Nat) (f : Nat → It) (i j : Nat) : Prop := j < m ∧ (j = 2 * i + 1 ∨ j = 2 * i + 2) ∧ ∀ c, 0 < c → c < m → (c - 1) / 2 = i → le (f j) (f c)

theorem min_left {m i : Nat} {f : Nat → It} (h1 : 2 * i + 1 < m) (h2 : 2 * i + 2 < m → fore (f (2 * i + 2)) (f (2 * i + 1)) = false) : Min m f i (2 * i + 1) := by
  refine ⟨h1, .inl rfl, fun c h0 hc hp => ?_⟩
  have : c = 2 * i + 1 ∨ c = 2 * i + 2 := by omega
  rcases this with rfl | rfl
  · exact le_refl _
  · exact h2 hc
theorem min_right {m i : Nat} {f : Nat → It} (h1 : 2 * i + 2 < m) (h2 : fore (f (2 * i + 2)) (f (2 * i + 1)) = true) : Min m f i (2 * i + 2) := by
  refine ⟨h1, .inr rfl, fun c h0 hc hp => ?_⟩
  have : c = 2 * i + 1 ∨ c = 2 * i + 2 := by omega
  rcases this with rfl | rfl
  · exact le_of h2
  · exact le_refl _

theorem down_stop1 {m i i0 : Nat} {f : Nat → It} (h : DInv m f i i0) (h1 : m ≤ 2 * i + 1) : DEnd m f i i0 :=
  ⟨fun c h0 hc hne => h.1 c h0 hc (by omega) hne, h.2⟩
theorem down_stop2 {m i i0 j : Nat} {f : Nat → It} (h : DInv m f i i0) (hm : Min m f i j) (ha : fore (f j) (f i) = false) : DEnd m f i i0 := by
  refine ⟨fun c h0 hc hne => ?_, h.2⟩
  by_cases hp : (c - 1) / 2 = i
  · rw [hp]
    exact le_trans ha (hm.2.2 c h0 hc hp)
  · exact h.1 c h0 hc hp hne
theorem down_step {m i i0 j : Nat} {f : Nat → It} (h : DInv m f i i0) (hi0 : i0 ≤ i) (hm : Min m f i j) (ha : fore (f j) (f i) = true) : DInv m (swp f i j) j i0 := by
  obtain ⟨hj, hji, hmin⟩ := hm
  have hij : i ≠ j := by omega
  have hpj : (j - 1) / 2 = i := by omega
  refine ⟨fun c hc0 hc hp hne => ?_, fun c hc0 hc hp h0 => ?_⟩
  · by_cases hcj : c = j
    · subst hcj
      rw [hpj, swp_l, swp_r]
      exact le_of ha
    · by_cases hci : c = i
      · subst hci
        rw [swp_l, swp_o f (by omega) (by omega)]
        exact h.2 j (by omega) hj hpj hc0
      · rw [swp_o f hci hcj]
        by_cases hpi : (c - 1) / 2 = i
        · rw [hpi, swp_l]
          exact hmin c hc0 hc hpi
        · rw [swp_o f hpi hp]
          exact h.1 c hc0 hc hpi (fun e => absurd e hci)
  · rw [hpj, swp_l, swp_o f (by omega) (by omega)]
    have := h.1 c hc0 hc (by omega) (fun e => by omega)
    rwa [hp] at this

theorem dend_heap {m i i0 : Nat} {f : Nat → It} (h : DEnd m f i i0) (hi : i ≠ i0 ∨ i = 0) : Heap m f := fun c h0 hc => h.1 c h0 hc (fun e => by omega)
theorem dend_up {m i : Nat} {f : Nat → It} (h : DEnd m f i i) : UInv m f i := ⟨fun c h0 hc hne => h.1 c h0 hc (fun e => absurd e hne), h.2⟩

/-- The last one laid at i, and what was there taken off. -/
theorem down_start {n i : Nat} {f : Nat → It} (h : Heap (n + 1) f) (hi : i < n) : DInv n (swp f i n) i i := by
  refine ⟨fun c h0 hc hp hne => ?_, fun c h0 hc hp hi0 => ?_⟩
  · have hci : c ≠ i := fun e => hne e rfl
    rw [swp_o f hci (by omega), swp_o f hp (by omega)]
    exact h c h0 (by omega)
  · rw [swp_o f (by omega) (by omega), swp_o f (by omega) (by omega)]
    have h1 := h c h0 (by omega)
    have h2 := h i hi0 (by omega)
    rw [hp] at h1
    exact le_trans h2 h1
end Go.Proofs.Ytlfgnoicjogfpaa.Hp

namespace Go.Proofs.Ytlfgnoicjogfpaa.Qu
open Go.RowKit Go.Maps
open Mem Hp

/-- Of what was there, blocks of U alone have turned. -/
structure Tn (U : Nat → Prop) (w w' : World) : Prop where
  os : w'.os = w.os
  tape : w'.tape = w.tape
  output : w'.output = w.output
  size : w.heap.size ≤ w'.heap.size
  block : ∀ b, b < w.heap.size → ¬ U b → w'.heap[b]? = w.heap[b]?

/-- The blocks of U, and those that are new. -/
def Gr (U : Nat → Prop) (w w' : World) (b : Nat) : Prop := U b ∨ (w.heap.size ≤ b ∧ b < w'.heap.size)

section
variable {U V : Nat → Prop} {a b c w w' : World}

theorem Tn.refl (U : Nat → Prop) (w : World) : Tn U w w := ⟨rfl, rfl, rfl, Nat.le_refl _, fun _ _ _ => rfl⟩
theorem Tn.trans (h : Tn U a b) (k : Tn V b c) (hv : ∀ x, V x → U x ∨ a.heap.size ≤ x) : Tn U a c :=
  ⟨k.os.trans h.os, k.tape.trans h.tape, k.output.trans h.output, Nat.le_trans h.size k.size, fun x hx hu =>
    (k.block x (Nat.lt_of_lt_of_le hx h.size) (fun hvx => by rcases hv x hvx with h1 | h1; exact hu h1; omega)).trans (h.block x hx hu)⟩
theorem Tn.andThen (h : Tn U a b) (k : Tn U b c) : Tn U a c := h.trans k fun _ hx => .inl hx
theorem Tn.grown (h : Tn U a b) (k : Tn (Gr U a b) b c) : Tn U a c := h.trans k fun _ hx => hx.imp id (fun h => h.1)
theorem Tn.of_below (h : Below a.heap.size a b) : Tn U a b := ⟨h.os, h.tape, h.output, h.size, fun x hx _ => h.block x hx⟩
theorem Tn.more (h : Tn U a b) (hu : ∀ x, U x → V x) : Tn V a b := ⟨h.os, h.tape, h.output, h.size, fun x hx hv => h.block x hx (fun hux => hv (hu x hux))⟩
theorem Tn.drewN (h : Tn U a b) (n : Nat) : Tn U a (b.drewN n) := ⟨h.os, h.tape, h.output, h.size, h.block⟩
theorem Tn.alloc (h : Tn U a b) (o : Obj) : Tn U a (b.alloc o) :=
  ⟨h.os, h.tape, h.output, Nat.le_trans h.size (by simp), fun x hx hu => (Below.heap_alloc b o x (Nat.lt_of_lt_of_le hx h.size)).trans (h.block x hx hu)⟩
theorem Tn.setCell (h : Tn U a b) {p : Addr} (hp : U p.block ∨ a.heap.size ≤ p.block) (u : Value) : Tn U a (b.setCell p u) :=
  ⟨h.os, h.tape, h.output, by simpa [World.setCell] using h.size, fun x hx hu =>
    (Below.heap_setCell b p u x (fun e => by subst e; rcases hp with h1 | h1; exact hu h1; omega)).trans (h.block x hx hu)⟩
theorem Tn.by_only (h : Tn U a b) {g : Nat} (k : b.grownBy c (some g)) (hg : U g ∨ a.heap.size ≤ g) : Tn U a c :=
  ⟨k.os.trans h.os, k.tape.trans h.tape, k.output.trans h.output, Nat.le_trans h.size k.size, fun x hx hu =>
    (k.block x (Nat.lt_of_lt_of_le hx h.size) (fun e => by injection e with e; subst e; rcases hg with h1 | h1; exact hu h1; omega)).trans (h.block x hx hu)⟩
theorem Tn.by_none (h : Tn U a b) (k : b.grownBy c none) : Tn U a c :=
  ⟨k.os.trans h.os, k.tape.trans h.tape, k.output.trans h.output, Nat.le_trans h.size k.size, fun x hx hu =>
    (k.block x (Nat.lt_of_lt_of_le hx h.size) (fun e => by cases e)).trans (h.block x hx hu)⟩
theorem Tn.below (h : Tn U a b) {B : Nat} (hB : B ≤ a.heap.size) (hu : ∀ x, U x → B ≤ x) : Below B a b :=
  ⟨h.os, h.tape, h.output, h.size, fun x hx => h.block x (by omega) (fun hux => by have := hu x hux; omega)⟩

theorem Gr.trans (hab : a.heap.size ≤ b.heap.size) (hbc : b.heap.size ≤ c.heap.size) (x : Nat) : Gr (Gr U a b) b c x → Gr U a c x := by
  unfold Gr
  rintro ((h | h) | h)
  · exact .inl h
  · exact .inr ⟨h.1, by omega⟩
  · exact .inr ⟨by omega, h.2⟩
end

/-- The t-th cell of things in a row. -/
def cellF (f : Nat → It) (t : Nat) : Value := if t % 2 = 0 then .int .i64 (f (t / 2)).1 else .int .i64 (f (t / 2)).2
def flatF (n : Nat) (f : Nat → It) : List Value := (List.range (n * 2)).map (cellF f)

theorem flat_len (n : Nat) (f : Nat → It) : (flatF n f).length = n * 2 := by simp [flatF]
theorem flat_get (n : Nat) (f : Nat → It) (t : Nat) (h : t < n * 2) : (flatF n f)[t]? = some (cellF f t) := by
  simp [flatF, h]
theorem cell_id (f : Nat → It) (i : Nat) : cellF f (i * 2) = .int .i64 (f i).1 := by
  unfold cellF
  rw [if_pos (by omega), show i * 2 / 2 = i by omega]
theorem cell_key (f : Nat → It) (i : Nat) : cellF f (i * 2 + 1) = .int .i64 (f i).2 := by
  unfold cellF
  rw [if_neg (by omega), show (i * 2 + 1) / 2 = i by omega]
theorem flat_id (n : Nat) (f : Nat → It) (i : Nat) (h : i < n) : (flatF n f)[i * 2]? = some (.int .i64 (f i).1) := by
  rw [flat_get n f _ (by omega), cell_id]
theorem flat_key (n : Nat) (f : Nat → It) (i : Nat) (h : i < n) : (flatF n f)[i * 2 + 1]? = some (.int .i64 (f i).2) := by
  rw [flat_get n f _ (by omega), cell_key]
theorem flat_congr {n : Nat} {f g : Nat → It} (h : ∀ k, k < n → f k = g k) : flatF n f = flatF n g := by
  unfold flatF
  refine List.map_congr_left fun t ht => ?_
  have : t < n * 2 := by simpa using ht
  unfold cellF
  rw [h (t / 2) (by omega)]
theorem flat_eq {n : Nat} {f : Nat → It} {l : List Value} (hl : l.length = n * 2) (h : ∀ i, i < n → l[i * 2]? = some (.int .i64 (f i).1) ∧ l[i * 2 + 1]? = some (.int .i64 (f i).2)) : l = flatF n f := by
  apply List.ext_getElem?
  intro t
  by_cases ht : t < n * 2
  · have hm : t % 2 = 0 ∨ t % 2 = 1 := by omega
    rcases hm with hm | hm
    · obtain ⟨i, rfl⟩ : ∃ i, t = i * 2 := ⟨t / 2, by omega⟩
      rw [(h i (by omega)).1, flat_id n f i (by omega)]
    · obtain ⟨i, rfl⟩ : ∃ i, t = i * 2 + 1 := ⟨t / 2, by omega⟩
      rw [(h i (by omega)).2, flat_key n f i (by omega)]
  · rw [List.getElem?_eq_none (by omega), List.getElem?_eq_none (by rw [flat_len]; omega)]
theorem flat_take (n m : Nat) (f : Nat → It) (h : m ≤ n) : (flatF n f).take (m * 2) = flatF m f :=
  flat_eq (by rw [List.length_take, flat_len]; omega) fun i hi => by
    rw [List.getElem?_take, if_pos (by omega), List.getElem?_take, if_pos (by omega)]
    exact ⟨flat_id n f i (by omega), flat_key n f i (by omega)⟩
theorem flat_snoc (n : Nat) (f g : Nat → It) (x : It) (h : ∀ k, k < n → g k = f k) (hx : g n = x) : flatF n f ++ [.int .i64 x.1, .int .i64 x.2] = flatF (n + 1) g :=
  flat_eq (by rw [List.length_append, flat_len]; simp; omega) fun i hi => by
    by_cases hin : i < n
    · rw [List.getElem?_append_left (by rw [flat_len]; omega), List.getElem?_append_left (by rw [flat_len]; omega), flat_id n f i hin, flat_key n f i hin, h i hin]
      exact ⟨rfl, rfl⟩
    · obtain rfl : i = n := by omega
      rw [List.getElem?_append_right (by rw [flat_len]; omega), List.getElem?_append_right (by rw [flat_len]; omega), flat_len, hx, show i * 2 - i * 2 = 0 by omega, show i * 2 + 1 - i * 2 = 1 by omega]
      exact ⟨rfl, rfl⟩
/-- An exchange, as four stores. -/
theorem flat_swp (n : Nat) (f : Nat → It) (i j : Nat) (hi : i < n) (hj : j < n) :
    ((((flatF n f).set (i * 2) (.int .i64 (f j).1)).set (i * 2 + 1) (.int .i64 (f j).2)).set (j * 2) (.int .i64 (f i).1)).set (j * 2 + 1) (.int .i64 (f i).2) = flatF n (swp f i j) :=
  flat_eq (by simp [flat_len]) fun k hk => by
    have h1 := flat_id n f k hk
    have h2 := flat_key n f k hk
    have hl := flat_len n f
    simp only [List.getElem?_set, List.length_set, hl]
    by_cases a : k = j
    · subst a
      rw [swp_r]
      rw [if_neg (show ¬ k * 2 + 1 = k * 2 by omega), if_pos rfl, if_pos (by omega), if_pos rfl, if_pos (by omega)]
      exact ⟨rfl, rfl⟩
    · rw [if_neg (show ¬ j * 2 + 1 = k * 2 by omega), if_neg (show ¬ j * 2 = k * 2 by omega), if_neg (show ¬ i * 2 + 1 = k * 2 by omega), if_neg (show ¬ j * 2 + 1 = k * 2 + 1 by omega), if_neg (show ¬ j * 2 = k * 2 + 1 by omega)]
      by_cases b : k = i
      · subst b
        rw [swp_l]
        rw [if_pos rfl, if_pos (by omega), if_pos rfl, if_pos (by omega)]
        exact ⟨rfl, rfl⟩
      · rw [if_neg (show ¬ i * 2 = k * 2 by omega), if_neg (show ¬ i * 2 + 1 = k * 2 + 1 by omega), if_neg (show ¬ i * 2 = k * 2 + 1 by omega), swp_o f b a]
        exact ⟨h1, h2⟩

def In64 (a : Int) : Prop := -9223372036854775808 ≤ a ∧ a ≤ 9223372036854775807
abbrev kid (a : Int) : Lit := .int .i64 a
abbrev kn (k : Nat) : DataW Unit := .lit (.int .i64 (k : Int))

/-- The map has the places of the first n, by their ids, and nothing else. -/
structure MapIs (D : DataW Unit) (n : Nat) (f : Nat → It) : Prop where
  size : Maps.size D = n
  has : ∀ a : Int, Maps.has D (kid a) = true ↔ ∃ k, k < n ∧ (f k).1 = a
  at_ : ∀ k, k < n → D.atKey (kid (f k).1) (kn 0) = kn k

theorem MapIs.inj {D : DataW Unit} {n : Nat} {f : Nat → It} (h : MapIs D n f) {i j : Nat} (hi : i < n) (hj : j < n) (e : (f i).1 = (f j).1) : i = j := by
  have h1 := h.at_ i hi
  rw [e, h.at_ j hj] at h1
  injection h1 with h1
  injection h1 with _ h1
  omega

theorem MapIs.put {D : DataW Unit} {n : Nat} {f g : Nat → It} (h : MapIs D n f) (ht : Tidy D) (x : It) (hn : ∀ k, k < n → (f k).1 ≠ x.1) (he : ∀ k, k < n → g k = f k) (hgx : g n = x) : MapIs (D.put (kid x.1) (kn n)) (n + 1) g := by
  have hk : WideAt.IsKeyLit (kid x.1) := trivial
  have hno : Maps.has D (kid x.1) = false := by
    rw [← Bool.not_eq_true, h.has]
    rintro ⟨k, hk, e⟩
    exact hn k hk e
  refine ⟨by rw [size_put ht, hno, if_neg (by decide), h.size], fun a => ?_, fun k hk' => ?_⟩
  · by_cases ha : a = x.1
    · subst ha
      rw [has_put_same ht.isMap hk]
      exact ⟨fun _ => ⟨n, by omega, by rw [hgx]⟩, fun _ => rfl⟩
    · rw [has_put_other (fun e => ha (by injection e)), h.has]
      constructor
      · rintro ⟨k, hk, e⟩; exact ⟨k, by omega, by rw [he k hk]; exact e⟩
      · rintro ⟨k, hk, e⟩
        by_cases hkn : k = n
        · subst hkn; rw [hgx] at e; exact absurd e.symm ha
        · exact ⟨k, by omega, by rw [← he k (by omega)]; exact e⟩
  · by_cases hkn : k = n
    · subst hkn
      rw [hgx, atKey_put_same ht.isMap hk]
    · have hkl : k < n := by omega
      rw [he k hkl, atKey_put_other (fun e => hn k hkl (by injection e)), h.at_ k hkl]

/-- The exchange's two stores into the map. -/
theorem MapIs.swp {D : DataW Unit} {n : Nat} {f : Nat → It} (h : MapIs D n f) (ht : Tidy D) {i j : Nat} (hi : i < n) (hj : j < n) :
    MapIs ((D.put (kid (f j).1) (kn i)).put (kid (f i).1) (kn j)) n (Hp.swp f i j) := by
  have hki : WideAt.IsKeyLit (kid (f i).1) := trivial
  have hkj : WideAt.IsKeyLit (kid (f j).1) := trivial
  have ht1 := ht.put hkj (kn i)
  have hmi : Maps.has D (kid (f i).1) = true := (h.has _).2 ⟨i, hi, rfl⟩
  have hmj : Maps.has D (kid (f j).1) = true := (h.has _).2 ⟨j, hj, rfl⟩
  have hmi1 : Maps.has (D.put (kid (f j).1) (kn i)) (kid (f i).1) = true := by
    by_cases e : (f i).1 = (f j).1
    · rw [e]; exact has_put_same ht.isMap hkj _
    · rw [has_put_other (fun x => e (by injection x))]; exact hmi
  refine ⟨by rw [size_put ht1, hmi1, if_pos rfl, size_put ht, hmj, if_pos rfl, h.size], fun a => ?_, fun k hk => ?_⟩
  · have hs := (same_swp f hi hj).1
    have hx : (∃ k, k < n ∧ (Hp.swp f i j k).1 = a) ↔ ∃ k, k < n ∧ (f k).1 = a := by
      constructor
      · rintro ⟨k, hk, e⟩
        obtain ⟨k', hk', e'⟩ := (hs (Hp.swp f i j k)).2 ⟨k, hk, rfl⟩
        exact ⟨k', hk', by rw [e']; exact e⟩
      · rintro ⟨k, hk, e⟩
        obtain ⟨k', hk', e'⟩ := (hs (f k)).1 ⟨k, hk, rfl⟩
        exact ⟨k', hk', by rw [e']; exact e⟩
    rw [hx, ← h.has a]
    by_cases ha : a = (f i).1
    · subst ha
      rw [has_put_same ht1.isMap hki, hmi]
    · rw [has_put_other (fun e => ha (by injection e))]
      by_cases hb : a = (f j).1
      · subst hb
        rw [has_put_same ht.isMap hkj, hmj]
      · rw [has_put_other (fun e => hb (by injection e))]
  · by_cases hkj' : k = j
    · subst hkj'
      rw [swp_r, atKey_put_same ht1.isMap hki]
    · by_cases hki' : k = i
      · subst hki'
        rw [swp_l]
        have hne : (f j).1 ≠ (f k).1 := fun e => hkj' (h.inj hk hj e.symm)
        rw [atKey_put_other (fun e => hne (by injection e)), atKey_put_same ht.isMap hkj]
      · rw [swp_o f hki' hkj']
        rw [atKey_put_other (fun e => hki' (h.inj hk hi (by injection e))), atKey_put_other (fun e => hkj' (h.inj hk hj (by injection e))), h.at_ k hk]

/-- The last one's id struck. -/
theorem MapIs.del {D : DataW Unit} {n : Nat} {f : Nat → It} (h : MapIs D (n + 1) f) (ht : Tidy D) : MapIs (D.del (kid (f n).1)) n f := by
  have hmn : Maps.has D (kid (f n).1) = true := (h.has _).2 ⟨n, by omega, rfl⟩
  refine ⟨?_, fun a => ?_, fun k hk => ?_⟩
  · have := size_del (k := kid (f n).1) ht
    rw [hmn, if_pos rfl, h.size] at this
    omega
  · by_cases ha : a = (f n).1
    · subst ha
      rw [has_del_same]
      refine ⟨fun e => (by cases e), ?_⟩
      rintro ⟨k, hk, e⟩
      have := h.inj (i := k) (j := n) (by omega) (by omega) e
      omega
    · rw [has_del_other (fun e => ha (by injection e)), h.has]
      constructor
      · rintro ⟨k, hk, e⟩
        by_cases hkn : k = n
        · subst hkn; exact absurd e.symm ha
        · exact ⟨k, by omega, e⟩
      · rintro ⟨k, hk, e⟩
        exact ⟨k, by omega, e⟩
  · rw [atKey_del_other (fun e => by
      have := h.inj (i := k) (j := n) (by omega) (by omega) (by injection e)
      omega), h.at_ k (by omega)]

/-- A pile in memory: n things in a row, the first nm in the map; all of it lies in blocks of U. -/
structure PileAt (w : World) (p m : Nat) (v : Value) (D : DataW Unit) (U : Nat → Prop) (n nm : Nat) (f : Nat → It) : Prop where
  blk : Blk w p 168 #[v, .map (some m)]
  row : w.ownsRow 0 161 2 v n (flatF n f)
  map : w.ownsMap Try.prog 3 (plainElem Try.prog 3) m nm D
  is : MapIs D nm f
  pm : p ≠ m
  gp : ∀ g, v.ownBlock = some g → g ≠ p ∧ g ≠ m ∧ U g
  up : U p
  um : U m
  lt : ∀ b, U b → b < w.heap.size
  inn : ∀ k, k < nm → In64 (f k).1 ∧ In64 (f k).2
  le : n ≤ nm
  few : nm ≤ 1000

def Pile (w : World) (p : Nat) (U : Nat → Prop) (n nm : Nat) (f : Nat → It) : Prop := ∃ m v D, PileAt w p m v D U n nm f

theorem PileAt.kept {w w' : World} {p m : Nat} {v : Value} {D : DataW Unit} {U V : Nat → Prop} {n nm : Nat} {f : Nat → It} (h : PileAt w p m v D U n nm f) (ht : Tn V w w') (hd : ∀ b, U b → ¬ V b) : PileAt w' p m v D U n nm f := by
  refine ⟨?_, ?_, ?_, h.is, h.pm, h.gp, h.up, h.um, fun b hb => Nat.lt_of_lt_of_le (h.lt b hb) ht.size, h.inn, h.le, h.few⟩
  · exact (ht.block p (h.lt p h.up) (hd p h.up)).trans h.blk
  · obtain ⟨h1, h2⟩ := h.row
    refine ⟨h1, ?_⟩
    rcases h2 with h2 | ⟨g, cap, cur, rfl, hb, hg, r⟩
    · exact .inl h2
    · have hu := (h.gp g rfl).2.2
      exact .inr ⟨g, cap, cur, rfl, hb, (ht.block g (h.lt g hu) (hd g hu)).trans hg, r⟩
  · obtain ⟨es, clock, hb, r⟩ := h.map
    exact ⟨es, clock, (ht.block m (h.lt m h.um) (hd m h.um)).trans hb, r⟩

theorem PileAt.below {w w' : World} {p m : Nat} {v : Value} {D : DataW Unit} {U : Nat → Prop} {n nm : Nat} {f : Nat → It} (h : PileAt w p m v D U n nm f) (hb : Below w.heap.size w w') : PileAt w' p m v D U n nm f :=
  h.kept (V := fun _ => False) (Tn.of_below hb) (fun _ _ => id)

theorem PileAt.more {w : World} {p m : Nat} {v : Value} {D : DataW Unit} {U V : Nat → Prop} {n nm : Nat} {f : Nat → It} (h : PileAt w p m v D U n nm f) (hu : ∀ b, U b → V b) (hl : ∀ b, V b → b < w.heap.size) : PileAt w p m v D V n nm f :=
  ⟨h.blk, h.row, h.map, h.is, h.pm, fun g hg => ⟨(h.gp g hg).1, (h.gp g hg).2.1, hu _ (h.gp g hg).2.2⟩, hu _ h.up, hu _ h.um, hl, h.inn, h.le, h.few⟩

theorem Pile.kept {w w' : World} {p : Nat} {U V : Nat → Prop} {n nm : Nat} {f : Nat → It} (h : Pile w p U n nm f) (ht : Tn V w w') (hd : ∀ b, U b → ¬ V b) : Pile w' p U n nm f := by
  obtain ⟨m, v, D, h⟩ := h
  exact ⟨m, v, D, h.kept ht hd⟩
theorem Pile.below {w w' : World} {p : Nat} {U : Nat → Prop} {n nm : Nat} {f : Nat → It} (h : Pile w p U n nm f) (hb : Below w.heap.size w w') : Pile w' p U n nm f := by
  obtain ⟨m, v, D, h⟩ := h
  exact ⟨m, v, D, h.below hb⟩
theorem Pile.more {w : World} {p : Nat} {U V : Nat → Prop} {n nm : Nat} {f : Nat → It} (h : Pile w p U n nm f) (hu : ∀ b, U b → V b) (hl : ∀ b, V b → b < w.heap.size) : Pile w p V n nm f := by
  obtain ⟨m, v, D, h⟩ := h
  exact ⟨m, v, D, h.more hu hl⟩

theorem PileAt.form {w : World} {p m : Nat} {v : Value} {D : DataW Unit} {U : Nat → Prop} {n nm : Nat} {f : Nat → It} (h : PileAt w p m v D U n nm f) : ∃ A c, v = .slice A n c := by
  rcases h.row.2 with ⟨rfl, rfl⟩ | ⟨g, cap, cur, rfl, _⟩
  · exact ⟨_, _, rfl⟩
  · exact ⟨_, _, rfl⟩

theorem PileAt.there {w : World} {p m : Nat} {v : Value} {D : DataW Unit} {U : Nat → Prop} {n nm : Nat} {f : Nat → It} (h : PileAt w p m v D U n nm f) (hn : 0 < n) : ∃ g c, v = .slice (some ⟨g, 0, none⟩) n c := by
  rcases h.row.2 with ⟨rfl, rfl⟩ | ⟨g, cap, cur, rfl, _⟩
  · omega
  · exact ⟨_, _, rfl⟩
end Go.Proofs.Ytlfgnoicjogfpaa.Qu
