/-
  WALKS of layer 13: lists that are alike.
-/
import Derived.Test.YtckpbdphilifoaaWe
namespace Go.Proofs.Ytckpbdphilifoaa.By
open Go.RowKit
open Mem Gm Rf

theorem list_eq_at {α : Type} {a b : List α} (d : α) (hl : a.length = b.length) (h : ∀ i, i < a.length → a.getD i d = b.getD i d) : a = b := by
  apply List.ext_getElem hl
  intro i h1 h2
  have := h i h1
  rw [List.getD_eq_getElem?_getD, List.getD_eq_getElem?_getD, List.getElem?_eq_getElem h1, List.getElem?_eq_getElem h2] at this
  exact this

def SAns (w : World) (P : Prop) (e : Ending) (w' : World) : Prop := (∃ b, e = .returned (.bool b) ∧ (b = true ↔ P)) ∧ Below w.heap.size w w'

set_option maxRecDepth 100000 in
set_option maxHeartbeats 4000000 in
theorem sameRows_any (w : World) (A A2 : Option Addr) (n c m c2 : Nat) (a b : List Ro) (h : RoL w A n c a) (h2 : RoL w A2 m c2 b) :
    Calls Try.prog 13 #[.slice A n c, .slice A2 m c2] w (SAns w (a = b)) := by
  have hn := h.few
  by_cases hnm : n = m
  · subst hnm
    have HR := Lib.hid (fun W (hb : Below w.heap.size w W) i (hi : i < n) => (h.on hb).at_ hi)
    have HR2 := Lib.hid (fun W (hb : Below w.heap.size w W) i (hi : i < n) => (h2.on hb).at_ hi)
    have HL := Lib.hid (show a.length = n ∧ b.length = n from ⟨h.1, h2.1⟩)
    clear h h2
    go_enter Try.func13, Try.ntmps13
    go_wp2_with fail
    go_loopw [5] (fun i wr => ∃ k : Nat, k ≤ n ∧ i = .int .i64 (k : Int) ∧ Below w.heap.size w wr ∧ Hid (∀ i, i < k → roAt a i = roAt b i)) (fun i _ => n - (intOf i).toNat)
    case atStart => exact ⟨0, Nat.zero_le _, rfl, Below.refl _ _, Lib.hid (fun i hi => by omega)⟩
    case round =>
      obtain ⟨k, hk, rfl, hbel, HO⟩ := hrel
      have HBE := Lib.hid hbel
      by_cases hlt : k < n
      · have hkI : (k : Int) < (n : Int) := by omega
        obtain ⟨ad, rfl, _, c0, c1, c2, c3⟩ := HR.out wr hbel k hlt
        obtain ⟨ad2, rfl, _, d0, d1, d2, d3⟩ := HR2.out wr hbel k hlt
        clear hbel
        obtain ⟨x, hx⟩ : ∃ x, roAt a k = x := ⟨_, rfl⟩
        obtain ⟨y, hy⟩ : ∃ y, roAt b k = y := ⟨_, rfl⟩
        rw [hx] at c0 c1 c2 c3
        rw [hy] at d0 d1 d2 d3
        by_cases hxy : x = y
        · have HO2 := Lib.hid (show ∀ i, i < k + 1 → roAt a i = roAt b i from fun i hi => by
            by_cases e : i = k
            · subst e; rw [hx, hy]; exact hxy
            · exact HO.out i (by omega))
          rw [hxy] at c0 c1 c2 c3
          clear hx hy HO hxy
          go_wp2_with fail
          go_quiet (fail)
          go_wp2_with fail
          go_roundw
          case rel => exact ⟨k + 1, by omega, by go_num, to_ HBE.out (drew_below _ _), HO2⟩
          case measure => simp [intOf]; omega
        · have HF := Lib.hid (show ¬ a = b from fun e => hxy (by rw [← hx, ← hy, e]))
          have hcs := ne_cases hxy
          clear hx hy HO hxy
          obtain ⟨x1, x2, x3, x4⟩ := x
          obtain ⟨y1, y2, y3, y4⟩ := y
          rcases hcs with hcs | ⟨e1, hcs⟩ | ⟨e1, e2, hcs⟩ | ⟨e1, e2, e3, hcs⟩
          all_goals simp only at hcs c0 c1 c2 c3 d0 d1 d2 d3
          · go_wp2_with fail
            go_quiet (fail)
            go_wp2_with fail
            go_ret
            exact ⟨⟨false, rfl, ⟨fun h => (by cases h), fun h => absurd h HF.out⟩⟩, to_ HBE.out (drew_below _ _)⟩
          · simp only at e1
            subst e1
            go_wp2_with fail
            go_quiet (fail)
            go_wp2_with fail
            go_ret
            exact ⟨⟨false, rfl, ⟨fun h => (by cases h), fun h => absurd h HF.out⟩⟩, to_ HBE.out (drew_below _ _)⟩
          · simp only at e1 e2
            subst e1 e2
            go_wp2_with fail
            go_quiet (fail)
            go_wp2_with fail
            go_ret
            exact ⟨⟨false, rfl, ⟨fun h => (by cases h), fun h => absurd h HF.out⟩⟩, to_ HBE.out (drew_below _ _)⟩
          · simp only at e1 e2 e3
            subst e1 e2 e3
            go_wp2_with fail
            go_quiet (fail)
            go_wp2_with fail
            go_ret
            exact ⟨⟨false, rfl, ⟨fun h => (by cases h), fun h => absurd h HF.out⟩⟩, to_ HBE.out (drew_below _ _)⟩
      · obtain rfl : k = n := by omega
        have HF := Lib.hid (show a = b from list_eq_at ro0 (by rw [HL.out.1, HL.out.2]) (fun i hi => HO.out i (by rw [HL.out.1] at hi; exact hi)))
        clear HO hbel
        go_wp2_with fail
        go_ret
        exact ⟨⟨true, rfl, ⟨fun _ => HF.out, fun _ => rfl⟩⟩, HBE.out⟩
  · have HF := Lib.hid (show ¬ a = b from fun e => hnm (by rw [← h.1, ← h2.1, e]))
    have hne : ((n : Int) != (m : Int)) = true := by simp; omega
    clear h h2
    go_enter Try.func13, Try.ntmps13
    go_wp2_with fail
    go_ret
    exact ⟨⟨false, rfl, ⟨fun h => (by cases h), fun h => absurd h HF.out⟩⟩, Below.refl _ _⟩

set_option maxRecDepth 100000 in
set_option maxHeartbeats 4000000 in
theorem same_any (w : World) (A A2 : Option Addr) (n c c2 : Nat) (a : List Rn) (h : RnL w A n c a) (h2 : RnL w A2 n c2 a) :
    Calls Try.prog 10 #[.slice A n c, .slice A2 n c2] w fun e w' => e = .returned (.bool true) ∧ Below w.heap.size w w' := by
  have hn := h.few
  have HR := Lib.hid (fun W (hb : Below w.heap.size w W) i (hi : i < n) => (h.on hb).at_ hi)
  have HR2 := Lib.hid (fun W (hb : Below w.heap.size w W) i (hi : i < n) => (h2.on hb).at_ hi)
  clear h h2
  go_enter Try.func10, Try.ntmps10
  go_wp2_with fail
  go_loopw [5] (fun i wr => ∃ k : Nat, k ≤ n ∧ i = .int .i64 (k : Int) ∧ Below w.heap.size w wr) (fun i _ => n - (intOf i).toNat)
  case atStart => exact ⟨0, Nat.zero_le _, rfl, Below.refl _ _⟩
  case round =>
    obtain ⟨k, hk, rfl, hbel⟩ := hrel
    have HBE := Lib.hid hbel
    by_cases hlt : k < n
    · have hkI : (k : Int) < (n : Int) := by omega
      obtain ⟨ad, rfl, _, c0, c1, c2, c3, c4⟩ := HR.out wr hbel k hlt
      obtain ⟨ad2, rfl, _, d0, d1, d2, d3, d4⟩ := HR2.out wr hbel k hlt
      clear hbel
      generalize rnAt a k = x at c0 c1 c2 c3 c4 d0 d1 d2 d3 d4
      go_wp2_with fail
      go_quiet (fail)
      go_wp2_with fail
      go_roundw
      case rel => exact ⟨k + 1, by omega, by go_num, to_ HBE.out (drew_below _ _)⟩
      case measure => simp [intOf]; omega
    · obtain rfl : k = n := by omega
      clear hbel
      go_wp2_with fail
      go_ret
      exact ⟨rfl, HBE.out⟩
end Go.Proofs.Ytckpbdphilifoaa.By
