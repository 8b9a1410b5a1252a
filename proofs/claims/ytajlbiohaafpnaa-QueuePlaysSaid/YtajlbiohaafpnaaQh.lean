/-
  A PILE, of no program: numbers with keys, the least above; how a thing goes up, and down.
-/
namespace Go.Proofs.Ytajlbiohaafpnaa.Hp

abbrev It := Int × Int

/-- Is x fore of y: by key, then by id. -/
def fore (x y : It) : Bool := if x.2 = y.2 then decide (x.1 < y.1) else decide (x.2 < y.2)
def le (x y : It) : Prop := fore y x = false

theorem fore_iff (x y : It) : fore x y = true ↔ x.2 < y.2 ∨ (x.2 = y.2 ∧ x.1 < y.1) := by
  unfold fore
  split
  · simp; omega
  · simp; omega
theorem le_iff (x y : It) : le x y ↔ x.2 < y.2 ∨ (x.2 = y.2 ∧ x.1 ≤ y.1) := by
  unfold le
  rw [← Bool.not_eq_true, fore_iff]
  omega
theorem le_refl (x : It) : le x x := by rw [le_iff]; omega
theorem le_trans {x y z : It} (h : le x y) (k : le y z) : le x z := by rw [le_iff] at *; omega
theorem le_of {x y : It} (h : fore x y = true) : le x y := by rw [fore_iff] at h; rw [le_iff]; omega
theorem le_antisymm {x y : It} (h : le x y) (k : le y x) : x = y := by
  rw [le_iff] at *
  exact Prod.ext (by omega) (by omega)
theorem fore_of {x y : It} (h : le x y) (hne : x ≠ y) : fore x y = true := by
  cases ha : fore x y with
  | true => rfl
  | false => exact absurd (le_antisymm h ha) hne

def swp (f : Nat → It) (i j k : Nat) : It := if k = i then f j else if k = j then f i else f k
theorem swp_l (f : Nat → It) (i j : Nat) : swp f i j i = f j := by unfold swp; rw [if_pos rfl]
theorem swp_r (f : Nat → It) (i j : Nat) : swp f i j j = f i := by
  unfold swp
  split
  · rename_i h; rw [h]
  · rw [if_pos rfl]
theorem swp_o (f : Nat → It) {i j k : Nat} (hi : k ≠ i) (hj : k ≠ j) : swp f i j k = f k := by unfold swp; rw [if_neg hi, if_neg hj]

/-- The same things among the first m; the others as they were. -/
def Same (m : Nat) (f f' : Nat → It) : Prop := (∀ x, (∃ k, k < m ∧ f k = x) ↔ ∃ k, k < m ∧ f' k = x) ∧ ∀ k, m ≤ k → f' k = f k

theorem Same.refl (m : Nat) (f : Nat → It) : Same m f f := ⟨fun _ => Iff.rfl, fun _ _ => rfl⟩
theorem Same.trans {m : Nat} {f g h : Nat → It} (a : Same m f g) (b : Same m g h) : Same m f h :=
  ⟨fun x => (a.1 x).trans (b.1 x), fun k hk => (b.2 k hk).trans (a.2 k hk)⟩
theorem same_swp {m : Nat} (f : Nat → It) {i j : Nat} (hi : i < m) (hj : j < m) : Same m f (swp f i j) := by
  refine ⟨fun x => ⟨?_, ?_⟩, fun k hk => swp_o f (by omega) (by omega)⟩
  · rintro ⟨k, hk, rfl⟩
    by_cases h1 : k = i
    · exact ⟨j, hj, by rw [swp_r, h1]⟩
    · by_cases h2 : k = j
      · exact ⟨i, hi, by rw [swp_l, h2]⟩
      · exact ⟨k, hk, swp_o f h1 h2⟩
  · rintro ⟨k, hk, rfl⟩
    by_cases h1 : k = i
    · exact ⟨j, hj, by rw [h1, swp_l]⟩
    · by_cases h2 : k = j
      · exact ⟨i, hi, by rw [h2, swp_r]⟩
      · exact ⟨k, hk, (swp_o f h1 h2).symm⟩
theorem Same.more {m n : Nat} {f f' : Nat → It} (h : Same m f f') (hn : m ≤ n) : Same n f f' := by
  refine ⟨fun x => ⟨?_, ?_⟩, fun k hk => h.2 k (by omega)⟩
  · rintro ⟨k, hk, e⟩
    by_cases hm : k < m
    · obtain ⟨k', a, b⟩ := (h.1 x).1 ⟨k, hm, e⟩
      exact ⟨k', by omega, b⟩
    · exact ⟨k, hk, by rw [h.2 k (by omega)]; exact e⟩
  · rintro ⟨k, hk, e⟩
    by_cases hm : k < m
    · obtain ⟨k', a, b⟩ := (h.1 x).2 ⟨k, hm, e⟩
      exact ⟨k', by omega, b⟩
    · exact ⟨k, hk, by rw [← h.2 k (by omega)]; exact e⟩

def Heap (n : Nat) (f : Nat → It) : Prop := ∀ c, 0 < c → c < n → le (f ((c - 1) / 2)) (f c)

theorem Heap.least {n : Nat} {f : Nat → It} (h : Heap n f) : ∀ k, k < n → le (f 0) (f k) := by
  intro k
  induction k using Nat.strongRecOn with
  | _ k ih =>
    intro hk
    by_cases h0 : k = 0
    · subst h0; exact le_refl _
    · exact le_trans (ih ((k - 1) / 2) (by omega) (by omega)) (h k (by omega) hk)
theorem Heap.less {n m : Nat} {f : Nat → It} (h : Heap n f) (hm : m ≤ n) : Heap m f := fun c h0 hc => h c h0 (by omega)
theorem Heap.congr {n : Nat} {f g : Nat → It} (h : Heap n f) (he : ∀ k, k < n → g k = f k) : Heap n g := fun c h0 hc => by
  rw [he c hc, he _ (by omega)]; exact h c h0 hc

/-- All is in order, but for what is above j. -/
def UInv (n : Nat) (f : Nat → It) (j : Nat) : Prop :=
  (∀ c, 0 < c → c < n → c ≠ j → le (f ((c - 1) / 2)) (f c)) ∧ (∀ c, 0 < c → c < n → (c - 1) / 2 = j → 0 < j → le (f ((j - 1) / 2)) (f c))

theorem up_start {n : Nat} {f g : Nat → It} (h : Heap n f) (he : ∀ k, k < n → g k = f k) : UInv (n + 1) g n := by
  refine ⟨fun c h0 hc hne => ?_, fun c h0 hc hp _ => by omega⟩
  rw [he c (by omega), he _ (by omega)]
  exact h c h0 (by omega)
theorem up_stop0 {n : Nat} {f : Nat → It} (h : UInv n f 0) : Heap n f := fun c h0 hc => h.1 c h0 hc (by omega)
theorem up_stop {n j : Nat} {f : Nat → It} (h : UInv n f j) (ha : fore (f j) (f ((j - 1) / 2)) = false) : Heap n f := fun c h0 hc => by
  by_cases hcj : c = j
  · subst hcj; exact ha
  · exact h.1 c h0 hc hcj
theorem up_step {n j : Nat} {f : Nat → It} (h : UInv n f j) (hj : j < n) (h0 : 0 < j) (ha : fore (f j) (f ((j - 1) / 2)) = true) : UInv n (swp f ((j - 1) / 2) j) ((j - 1) / 2) := by
  obtain ⟨p, hp⟩ : ∃ p, p = (j - 1) / 2 := ⟨_, rfl⟩
  rw [← hp] at ha ⊢
  have hpj : p ≠ j := by omega
  refine ⟨fun c hc0 hc hne => ?_, fun c hc0 hc hpar hp0 => ?_⟩
  · by_cases hcj : c = j
    · subst hcj
      rw [← hp, swp_l, swp_r]
      exact le_of ha
    · rw [swp_o f hne hcj]
      by_cases h1 : (c - 1) / 2 = j
      · rw [h1, swp_r]
        have := h.2 c hc0 hc h1 h0
        rwa [← hp] at this
      · by_cases h2 : (c - 1) / 2 = p
        · rw [h2, swp_l]
          have := h.1 c hc0 hc hcj
          rw [h2] at this
          exact le_trans (le_of ha) this
        · rw [swp_o f h2 h1]
          exact h.1 c hc0 hc hcj
  · rw [swp_o f (by omega) (by omega)]
    have hpp := h.1 p hp0 (by omega) hpj
    by_cases hcj : c = j
    · subst hcj
      rw [swp_r]
      exact hpp
    · rw [swp_o f (by omega) hcj]
      have := h.1 c hc0 hc hcj
      rw [hpar] at this
      exact le_trans hpp this

/-- All is in order, but for what is below i (and, if i is where it began, what is above i). -/
def DInv (m : Nat) (f : Nat → It) (i i0 : Nat) : Prop :=
  (∀ c, 0 < c → c < m → (c - 1) / 2 ≠ i → (c = i → i ≠ i0) → le (f ((c - 1) / 2)) (f c)) ∧ (∀ c, 0 < c → c < m → (c - 1) / 2 = i → 0 < i → le (f ((i - 1) / 2)) (f c))

/-- .. and below i too. -/
def DEnd (m : Nat) (f : Nat → It) (i i0 : Nat) : Prop :=
  (∀ c, 0 < c → c < m → (c = i → i ≠ i0) → le (f ((c - 1) / 2)) (f c)) ∧ (∀ c, 0 < c → c < m → (c - 1) / 2 = i → 0 < i → le (f ((i - 1) / 2)) (f c))

/-- j is a least one below i. -/
def Min (m : Nat) (f : Nat → It) (i j : Nat) : Prop := j < m ∧ (j = 2 * i + 1 ∨ j = 2 * i + 2) ∧ ∀ c, 0 < c → c < m → (c - 1) / 2 = i → le (f j) (f c)

theorem min_left {m i : Nat} {f : Nat → It} (h1 : 2 * i + 1 < m) (h2 : 2 * i + 2 < m → fore (f (2 * i + 2)) (f (2 * i + 1)) = false) : Min m f i (2 * i + 1) := by
  refine ⟨h1, .inl rfl, fun c h0 hc hp => ?_⟩
  have : c = 2 * i + 1 ∨ c = 2 * i + 2 := by omega
  rcases this with rfl | rfl
  · exact le_refl _
  · exact h2 hc
theorem min_right {m i : Nat} {f : Nat → It} (h1 : 2 * i + 2 < m) (h2 : fore (f (2 * i + 2)) (f (2 * i + 1)) = true) : Min m f i (2 * i + 2) := by
  refine ⟨h1, .inr rfl, fun c h0 hc hp => ?_⟩
  have : c = 2 * i + 1 ∨ c = 2 * i + 2 := by omega
  rcases this with rfl | rfl
  · exact le_of h2
  · exact le_refl _

theorem down_stop1 {m i i0 : Nat} {f : Nat → It} (h : DInv m f i i0) (h1 : m ≤ 2 * i + 1) : DEnd m f i i0 :=
  ⟨fun c h0 hc hne => h.1 c h0 hc (by omega) hne, h.2⟩
theorem down_stop2 {m i i0 j : Nat} {f : Nat → It} (h : DInv m f i i0) (hm : Min m f i j) (ha : fore (f j) (f i) = false) : DEnd m f i i0 := by
  refine ⟨fun c h0 hc hne => ?_, h.2⟩
  by_cases hp : (c - 1) / 2 = i
  · rw [hp]
    exact le_trans ha (hm.2.2 c h0 hc hp)
  · exact h.1 c h0 hc hp hne
theorem down_step {m i i0 j : Nat} {f : Nat → It} (h : DInv m f i i0) (hi0 : i0 ≤ i) (hm : Min m f i j) (ha : fore (f j) (f i) = true) : DInv m (swp f i j) j i0 := by
  obtain ⟨hj, hji, hmin⟩ := hm
  have hij : i ≠ j := by omega
  have hpj : (j - 1) / 2 = i := by omega
  refine ⟨fun c hc0 hc hp hne => ?_, fun c hc0 hc hp h0 => ?_⟩
  · by_cases hcj : c = j
    · subst hcj
      rw [hpj, swp_l, swp_r]
      exact le_of ha
    · by_cases hci : c = i
      · subst hci
        rw [swp_l, swp_o f (by omega) (by omega)]
        exact h.2 j (by omega) hj hpj hc0
      · rw [swp_o f hci hcj]
        by_cases hpi : (c - 1) / 2 = i
        · rw [hpi, swp_l]
          exact hmin c hc0 hc hpi
        · rw [swp_o f hpi hp]
          exact h.1 c hc0 hc hpi (fun e => absurd e hci)
  · rw [hpj, swp_l, swp_o f (by omega) (by omega)]
    have := h.1 c hc0 hc (by omega) (fun e => by omega)
    rwa [hp] at this

theorem dend_heap {m i i0 : Nat} {f : Nat → It} (h : DEnd m f i i0) (hi : i ≠ i0 ∨ i = 0) : Heap m f := fun c h0 hc => h.1 c h0 hc (fun e => by omega)
theorem dend_up {m i : Nat} {f : Nat → It} (h : DEnd m f i i) : UInv m f i := ⟨fun c h0 hc hne => h.1 c h0 hc (fun e => absurd e hne), h.2⟩

/-- The last one laid at i, and what was there taken off. -/
theorem down_start {n i : Nat} {f : Nat → It} (h : Heap (n + 1) f) (hi : i < n) : DInv n (swp f i n) i i := by
  refine ⟨fun c h0 hc hp hne => ?_, fun c h0 hc hp hi0 => ?_⟩
  · have hci : c ≠ i := fun e => hne e rfl
    rw [swp_o f hci (by omega), swp_o f hp (by omega)]
    exact h c h0 (by omega)
  · rw [swp_o f (by omega) (by omega), swp_o f (by omega) (by omega)]
    have h1 := h c h0 (by omega)
    have h2 := h i hi0 (by omega)
    rw [hp] at h1
    exact le_trans h2 h1
end Go.Proofs.Ytajlbiohaafpnaa.Hp
