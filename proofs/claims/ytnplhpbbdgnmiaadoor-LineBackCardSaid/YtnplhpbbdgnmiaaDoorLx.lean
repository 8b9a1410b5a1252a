/-
  WALK of layer 9: Text.
-/
import Derived.Test.YtnplhpbbdgnmiaaDoorLw
import Derived.Test.YtnplhpbbdgnmiaaDoorId
import Derived.Lib.OthersKept
import Derived.Laws.RangeAny
namespace Go.Proofs.YtnplhpbbdgnmiaaDoor.Ln
open Go.RowKit
open Mem Go.Lib

/-- The words that are gathered behind k letters. -/
def MSt (o a b c n : Int) (k : Nat) (L : List ByteArray) : Prop := ∃ done, L = By.nmV o :: done ∧ wds a b c n 0 (By.shV o).data.toList = (wds a b c n k ((By.shV o).data.toList.drop k)).map (done ++ ·) ∧ L.length ≤ k + 1 ∧ ∀ x ∈ L, x.size ≤ 20

theorem MSt.start (o a b c n : Int) : MSt o a b c n 0 [By.nmV o] := ⟨[], rfl, by simp, by simp, fun x hx => by
  rw [List.mem_singleton] at hx; subst hx; have := name_size o; omega⟩
theorem MSt.skip {o a b c n : Int} {k : Nat} {L : List ByteArray} (h : MSt o a b c n k L) (hx : (By.shV o).data.toList[k]? = some 45) : MSt o a b c n (k + 1) L := by
  obtain ⟨done, h1, h2, h3, h4⟩ := h
  refine ⟨done, h1, ?_, by omega, h4⟩
  rw [h2, drop_at hx, wds, if_pos rfl]
theorem MSt.put {o a b c n : Int} {k : Nat} {L : List ByteArray} (h : MSt o a b c n k L) {x : UInt8} (hx : (By.shV o).data.toList[k]? = some x) (h45 : x ≠ 45) {p : ByteArray × Bool} (hp : wrV x.toNat (By.opdV a b c n k) = p) (hw : p.2 = true) (hs : p.1.size ≤ 20) : MSt o a b c n (k + 1) (L ++ [p.1]) := by
  obtain ⟨done, h1, h2, h3, h4⟩ := h
  refine ⟨done ++ [p.1], by rw [h1]; rfl, ?_, by simp; omega, fun y hy => ?_⟩
  · rw [h2, drop_at hx, wds, if_neg h45, hp, if_pos hw]
    cases wds a b c n (k + 1) ((By.shV o).data.toList.drop (k + 1)) with
    | none => rfl
    | some r => simp
  · rcases List.mem_append.1 hy with h | h
    · exact h4 y h
    · rw [List.mem_singleton] at h; subst h; exact hs
theorem MSt.none {o a b c n : Int} {k : Nat} {L : List ByteArray} (h : MSt o a b c n k L) {x : UInt8} (hx : (By.shV o).data.toList[k]? = some x) (h45 : x ≠ 45) {p : ByteArray × Bool} (hp : wrV x.toNat (By.opdV a b c n k) = p) (hw : p.2 = false) : wds a b c n 0 (By.shV o).data.toList = Option.none := by
  obtain ⟨done, h1, h2, h3⟩ := h
  rw [h2, drop_at hx, wds, if_neg h45, hp, if_neg (by rw [hw]; decide)]; rfl
theorem MSt.done {o a b c n : Int} {k : Nat} {L : List ByteArray} (h : MSt o a b c n k L) (hk : (By.shV o).size ≤ k) : ∃ ws, wds a b c n 0 (By.shV o).data.toList = some ws ∧ By.nmV o :: ws = L := by
  obtain ⟨done, h1, h2, h3⟩ := h
  rw [List.drop_of_length_le (by rw [len_list]; exact hk)] at h2
  exact ⟨done, by rw [h2]; simp [wds], h1.symm⟩

/-- A row of the call's own lies in no iterator's block. -/
theorem own_iter {w : World} {base IB : Nat} {v : Value} {m : Nat} {xs : List Value} {s : ByteArray} {pos : Nat} (h : w.ownsRow base 9 1 v m xs) (hit : w.heap[IB]? = some (.stringIter s pos)) : v.ownBlock ≠ some IB := by
  intro e
  rcases h.2 with ⟨h2, _⟩ | ⟨g, cap, cur, hv, h3, h4, _⟩
  · rw [h2] at e; cases e
  · rw [hv] at e
    have : g = IB := by injection e
    subst this
    rw [h4] at hit; cases hit

theorem built_str (w : World) (base : Nat) (x : ByteArray) (hb : base ≤ w.heap.size) : (w.alloc (.cells #[.string x] 9)).ownsRow base 9 1 (.slice (some ⟨w.heap.size, 0, none⟩) 1 1) 1 (strs [x]) :=
  ⟨rfl, .inr ⟨w.heap.size, 1, #[.string x], rfl, hb, heap_alloc_new w _, Nat.le_refl _, by decide, rfl, rfl⟩⟩

theorem shape_ascii (o : Int) : ∀ k (h : k < (By.shV o).data.toList.length), ((By.shV o).data.toList[k]).toNat < 128 := by
  have h : ∀ i : Fin 25, ∀ x ∈ (By.shB i.val).data.toList, x.toNat < 128 := by decide +kernel
  intro k hk
  unfold By.shV at hk ⊢
  split
  · rename_i ho
    exact h ⟨o.toNat, by omega⟩ _ (List.getElem_mem _)
  · rename_i ho
    rw [if_neg ho] at hk; simp at hk
end Go.Proofs.YtnplhpbbdgnmiaaDoor.Ln
