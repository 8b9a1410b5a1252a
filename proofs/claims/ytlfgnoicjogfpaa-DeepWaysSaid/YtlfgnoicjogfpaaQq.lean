/-
  WALKS of layer 6: container/heap's Push, Pop, Remove over the pile.
-/
import Derived.Test.YtlfgnoicjogfpaaQz
namespace Go.Proofs.Ytlfgnoicjogfpaa.Qu
open Go.RowKit Go.Maps
open Mem Hp

/-- A pile in order, that has just the things of S. -/
def HeapAt (w : World) (p : Nat) (U : Nat → Prop) (n : Nat) (S : It → Prop) : Prop :=
  ∃ f, Pile w p U n n f ∧ Heap n f ∧ ∀ x, S x ↔ ∃ k, k < n ∧ f k = x

/-- The last one has been taken off the row, and stands in the map still. -/
def TakenAt (w : World) (p : Nat) (U : Nat → Prop) (n : Nat) (S : It → Prop) (x : It) : Prop :=
  ∃ f, Pile w p U n (n + 1) f ∧ Heap n f ∧ f n = x ∧ ∀ y, S y ↔ ∃ k, k < n + 1 ∧ f k = y

theorem Pile.inj {w : World} {p : Nat} {U : Nat → Prop} {n nm : Nat} {f : Nat → It} (h : Pile w p U n nm f) {i j : Nat} (hi : i < nm) (hj : j < nm) (e : (f i).1 = (f j).1) : i = j := by
  obtain ⟨m, v, D, h⟩ := h
  exact h.is.inj hi hj e
theorem Pile.lt {w : World} {p : Nat} {U : Nat → Prop} {n nm : Nat} {f : Nat → It} (h : Pile w p U n nm f) : ∀ b, U b → b < w.heap.size := by
  obtain ⟨m, v, D, h⟩ := h
  exact h.lt
theorem Pile.few {w : World} {p : Nat} {U : Nat → Prop} {n nm : Nat} {f : Nat → It} (h : Pile w p U n nm f) : nm ≤ 1000 := by
  obtain ⟨m, v, D, h⟩ := h
  exact h.few
theorem Pile.congr {w : World} {p : Nat} {U : Nat → Prop} {n nm : Nat} {f : Nat → It} (h : Pile w p U n nm f) : ∀ k, k < nm → In64 (f k).1 ∧ In64 (f k).2 := by
  obtain ⟨m, v, D, h⟩ := h
  exact h.inn

def PushPost (w : World) (p : Nat) (U : Nat → Prop) (n : Nat) (S : It → Prop) (x : It) (e : Ending) (w' : World) : Prop :=
  e = .returned (.tuple #[]) ∧ HeapAt w' p (Gr U w w') (n + 1) (fun y => S y ∨ y = x) ∧ Tn U w w'

theorem push_math {n : Nat} {S : It → Prop} {x : It} {f g : Nat → It} (hS : ∀ y, S y ↔ ∃ k, k < n ∧ f k = y) (hs : Same (n + 1) (fun k => if k = n then x else f k) g) : ∀ y, (S y ∨ y = x) ↔ ∃ k, k < n + 1 ∧ g k = y := by
  intro y
  rw [← hs.1 y, hS]
  constructor
  · rintro (⟨k, hk, e⟩ | e)
    · exact ⟨k, by omega, (upd_old f x k hk).trans e⟩
    · exact ⟨n, by omega, (upd_new f x).trans e.symm⟩
  · rintro ⟨k, hk, e⟩
    by_cases hkn : k = n
    · subst hkn; exact .inr (((upd_new f x).symm.trans e).symm)
    · exact .inl ⟨k, by omega, (upd_old f x k (by omega)).symm.trans e⟩

set_option maxHeartbeats 4000000 in
set_option maxRecDepth 100000 in
theorem hpush_any (w : World) (p : Nat) (U : Nat → Prop) (n : Nat) (S : It → Prop) (h : HeapAt w p U n S) (x : It) (hx : In64 x.1 ∧ In64 x.2) (hn : n < 1000) (hnew : ∀ y, S y → y.1 ≠ x.1) :
    Calls Try.prog 142 #[.iface 157 (.pointer (some ⟨p, 0, none⟩)), .iface 161 (.agg #[.int .i64 x.1, .int .i64 x.2])] w (PushPost w p U n S x) := by
  obtain ⟨f, hp, hh, hS⟩ := h
  have HC := Lib.hid (push_any w p U n f hp x hx hn (fun k hk => hnew (f k) ((hS _).2 ⟨k, hk, rfl⟩)))
  have HU := Lib.hid (up_start (g := fun k => if k = n then x else f k) hh (upd_old f x))
  have HM := Lib.hid (fun g => push_math (n := n) (S := S) (x := x) (f := f) (g := g) hS)
  have HLT := Lib.hid hp.lt
  generalize (fun k => if k = n then x else f k) = fn at HC HU HM
  generalize Value.iface 161 (.agg #[.int .i64 x.1, .int .i64 x.2]) = xv at HC ⊢
  clear hx hnew hp hh hS
  have m1 := m_push
  have m2 := m_len
  go_enter Try.func142, Try.ntmps142
  go_wp2_with fail
  refine HC.out.mono ?_
  rintro e w1 ⟨rfl, hp1, ht1⟩
  have HP1 := Lib.hid hp1
  have HT1 := Lib.hid ht1
  clear hp1 ht1
  go_wp2_with fail
  refine (len_any w1 p _ (n + 1) (n + 1) fn HP1.out).mono ?_
  rintro e w' ⟨rfl, rfl⟩
  rw [show ((n + 1 : Nat) : Int) = (n : Int) + 1 by omega]
  go_wp2_with fail
  refine (up_any w1 p _ (n + 1) (n + 1) fn HP1.out n (by omega) (Nat.le_refl _) (by omega) HU.out).mono ?_
  rintro e w2 ⟨rfl, g, hg, hs, hp2, ht2⟩
  have HP2 := Lib.hid hp2
  have HT2 := Lib.hid ht2
  have HH := Lib.hid hg
  have HS := Lib.hid hs
  clear hg hs hp2 ht2
  go_wp2_with fail
  go_end0
  refine ⟨rfl, ⟨g, HP2.out.more ?_ ?_, HH.out, HM.out g HS.out⟩, HT1.out.grown HT2.out⟩
  · rintro b (hb | hb)
    · exact .inl hb
    · exact .inr ⟨hb.1, Nat.lt_of_lt_of_le hb.2 HT2.out.size⟩
  · rintro b (hb | hb)
    · exact Nat.lt_of_lt_of_le (HLT.out b hb) (Nat.le_trans HT1.out.size HT2.out.size)
    · exact hb.2

def PopPost (w : World) (p : Nat) (U : Nat → Prop) (n : Nat) (S : It → Prop) (P : It → Prop) (e : Ending) (w' : World) : Prop :=
  ∃ x : It, e = .returned (.iface 161 (.agg #[.int .i64 x.1, .int .i64 x.2])) ∧ P x ∧ TakenAt w' p U n S x ∧ Tn U w w'

/-- What a pile is of which the last has been exchanged and the rest put in order. -/
theorem pop_math {n i : Nat} {S : It → Prop} {f g h : Nat → It} (hi : i < n + 1) (hS : ∀ y, S y ↔ ∃ k, k < n + 1 ∧ f k = y) (hs : Same n (swp f i n) g) (hs2 : Same n g h) : h n = f i ∧ ∀ y, S y ↔ ∃ k, k < n + 1 ∧ h k = y := by
  refine ⟨by rw [hs2.2 n (Nat.le_refl _), hs.2 n (Nat.le_refl _), swp_r], fun y => ?_⟩
  rw [hS]
  have h1 := (same_swp f hi (show n < n + 1 by omega)).1 y
  have h2 := ((hs.trans hs2).more (show n ≤ n + 1 by omega)).1 y
  exact h1.trans h2

set_option maxHeartbeats 4000000 in
set_option maxRecDepth 100000 in
theorem hpop_any (w : World) (p : Nat) (U : Nat → Prop) (n : Nat) (S : It → Prop) (h : HeapAt w p U (n + 1) S) :
    Calls Try.prog 138 #[.iface 157 (.pointer (some ⟨p, 0, none⟩))] w (PopPost w p U n S (fun x => S x ∧ ∀ y, S y → le x y)) := by
  obtain ⟨f, hp, hh, hS⟩ := h
  have HP := Lib.hid hp
  have hn := hp.few
  have HD : Hid (DInv n (swp f 0 n) 0 0) := Lib.hid (by
    by_cases h0 : n = 0
    · subst h0; exact ⟨fun c _ hc => by omega, fun c _ hc => by omega⟩
    · exact down_start hh (by omega))
  have HM := Lib.hid (fun g => pop_math (n := n) (i := 0) (S := S) (f := f) (g := g) (h := g) (by omega) hS)
  have HL : Hid (S (f 0) ∧ ∀ y, S y → le (f 0) y) := Lib.hid ⟨(hS _).2 ⟨0, by omega, rfl⟩, fun y hy => by
    obtain ⟨k, hk, rfl⟩ := (hS y).1 hy
    exact hh.least k hk⟩
  clear hp hh hS
  have m1 := m_len
  have m2 := m_swap
  have m3 := m_pop
  go_enter Try.func138, Try.ntmps138
  go_wp2_with fail
  refine (len_any w p _ (n + 1) (n + 1) f HP.out).mono ?_
  rintro e w' ⟨rfl, rfl⟩
  rw [show ((n + 1 : Nat) : Int) = (n : Int) + 1 by omega]
  go_wp2_with fail
  refine (swap_any w p U (n + 1) f HP.out 0 n (by omega) (by omega)).mono ?_
  rintro e w1 ⟨rfl, hp1, ht1⟩
  have HP1 := Lib.hid hp1
  have HT1 := Lib.hid ht1
  clear hp1 ht1
  go_wp2_with fail
  refine (down_any w1 p U (n + 1) n _ HP1.out 0 (by omega) (by omega) (by omega) HD.out).mono ?_
  rintro e w2 ⟨i, g, rfl, hi, hde, hs, hp2, ht2⟩
  have HP2 := Lib.hid hp2
  have HT2 := Lib.hid (HT1.out.andThen ht2)
  have HDE := Lib.hid hde
  have HS := Lib.hid hs
  clear hde hs hp2 ht2
  go_wp2_with fail
  refine (pop_any w2 p U n g HP2.out).mono ?_
  rintro e w3 ⟨rfl, hp3, ht3⟩
  have HP3 := Lib.hid hp3
  have HT3 := Lib.hid (HT2.out.andThen ht3)
  clear hp3 ht3
  go_wp2_with fail
  go_ret
  have hm := HM.out g HS.out (Same.refl n g)
  exact ⟨g n, rfl, by rw [hm.1]; exact HL.out, ⟨g, HP3.out, dend_heap HDE.out (by omega), rfl, hm.2⟩, HT3.out⟩

set_option maxHeartbeats 8000000 in
set_option maxRecDepth 100000 in
theorem hremove_any (w : World) (p : Nat) (U : Nat → Prop) (n : Nat) (S : It → Prop) (f : Nat → It) (hp : Pile w p U (n + 1) (n + 1) f) (hh : Heap (n + 1) f) (hS : ∀ x, S x ↔ ∃ k, k < n + 1 ∧ f k = x) (i : Nat) (hi : i < n + 1) :
    Calls Try.prog 141 #[.iface 157 (.pointer (some ⟨p, 0, none⟩)), .int .i64 i] w (PopPost w p U n S (fun x => x = f i)) := by
  have HP := Lib.hid hp
  have hn := hp.few
  have m1 := m_len
  have m2 := m_swap
  have m3 := m_pop
  by_cases hin : i = n
  · subst hin
    have HH := Lib.hid (hh.less (show i ≤ i + 1 by omega))
    have HS := Lib.hid hS
    clear hp hh hS
    go_enter Try.func141, Try.ntmps141
    go_wp2_with fail
    refine (len_any w p _ (i + 1) (i + 1) f HP.out).mono ?_
    rintro e w' ⟨rfl, rfl⟩
    rw [show ((i + 1 : Nat) : Int) = (i : Int) + 1 by omega]
    go_wp2_with fail
    refine (pop_any w p U i f HP.out).mono ?_
    rintro e w3 ⟨rfl, hp3, ht3⟩
    have HP3 := Lib.hid hp3
    have HT3 := Lib.hid ht3
    clear hp3 ht3
    go_wp2_with fail
    go_ret
    exact ⟨f i, rfl, rfl, ⟨f, HP3.out, HH.out, rfl, HS.out⟩, HT3.out⟩
  · have HD := Lib.hid (down_start hh (show i < n by omega))
    have HM := Lib.hid (fun g h => pop_math (n := n) (i := i) (S := S) (f := f) (g := g) (h := h) hi hS)
    have hne : ((n : Int) == (i : Int)) = false := by simp; omega
    have hne2 : ((n : Int) != (i : Int)) = true := by simp; omega
    have hii : i < n := by omega
    clear hp hh hS hin
    go_enter Try.func141, Try.ntmps141
    go_wp2_with fail
    refine (len_any w p _ (n + 1) (n + 1) f HP.out).mono ?_
    rintro e w' ⟨rfl, rfl⟩
    rw [show ((n + 1 : Nat) : Int) = (n : Int) + 1 by omega]
    go_wp2_with fail
    refine (swap_any w p U (n + 1) f HP.out i n (by omega) (by omega)).mono ?_
    rintro e w1 ⟨rfl, hp1, ht1⟩
    have HP1 := Lib.hid hp1
    have HT1 := Lib.hid ht1
    clear hp1 ht1
    go_wp2_with fail
    refine (down_any w1 p U (n + 1) n _ HP1.out i (by omega) (by omega) (by omega) HD.out).mono ?_
    rintro e w2 ⟨i', g, rfl, hi', hde, hs, hp2, ht2⟩
    have HP2 := Lib.hid hp2
    have HT2 := Lib.hid (HT1.out.andThen ht2)
    have HDE := Lib.hid hde
    have HS := Lib.hid hs
    clear hde hs hp2 ht2
    by_cases hm : i < i'
    · have hdec : decide (i < i') = true := by simpa using hm
      have HH := Lib.hid (dend_heap HDE.out (by omega))
      rw [hdec]
      clear hdec hm hi'
      go_wp2_with fail
      refine (pop_any w2 p U n g HP2.out).mono ?_
      rintro e w3 ⟨rfl, hp3, ht3⟩
      have HP3 := Lib.hid hp3
      have HT3 := Lib.hid (HT2.out.andThen ht3)
      clear hp3 ht3
      go_wp2_with fail
      go_ret
      have hm := HM.out g g HS.out (Same.refl n g)
      exact ⟨g n, rfl, hm.1, ⟨g, HP3.out, HH.out, rfl, hm.2⟩, HT3.out⟩
    · have hdec : decide (i < i') = false := by simpa using hm
      obtain rfl : i' = i := by omega
      have HU := Lib.hid (dend_up HDE.out)
      rw [hdec]
      clear hdec hm hi'
      go_wp2_with fail
      refine (up_any w2 p U (n + 1) n g HP2.out i' hii (by omega) (by omega) HU.out).mono ?_
      rintro e w3 ⟨rfl, g2, hg2, hs2, hp3, ht3⟩
      have HP3 := Lib.hid hp3
      have HT3 := Lib.hid (HT2.out.andThen ht3)
      have HH := Lib.hid hg2
      have HS2 := Lib.hid hs2
      clear hg2 hs2 hp3 ht3
      go_wp2_with fail
      refine (pop_any w3 p U n g2 HP3.out).mono ?_
      rintro e w4 ⟨rfl, hp4, ht4⟩
      have HP4 := Lib.hid hp4
      have HT4 := Lib.hid (HT3.out.andThen ht4)
      clear hp4 ht4
      go_wp2_with fail
      go_ret
      have hm := HM.out g g2 HS.out HS2.out
      exact ⟨g2 n, rfl, hm.1, ⟨g2, HP4.out, HH.out, rfl, hm.2⟩, HT4.out⟩
end Go.Proofs.Ytlfgnoicjogfpaa.Qu
