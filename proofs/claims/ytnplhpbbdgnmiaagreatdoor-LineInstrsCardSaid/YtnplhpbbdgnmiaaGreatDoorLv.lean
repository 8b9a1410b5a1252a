/-
  LINES OF INSTRUCTIONS, in plain mathematics; the document's own Text.
-/
import Derived.Test.YtnplhpbbdgnmiaaGreatDoorLu
import Derived.Test.YtnplhpbbdgnmiaaGreatDoorIe
import Derived.Test.YtnplhpbbdgnmiaaGreatDoorVb
namespace Go.Proofs.YtnplhpbbdgnmiaaGreatDoor.Ln
open Go.RowKit
open Mem Go.Lib

/-- The words of the operands whose letters these are, from place i on; none: a class that is none. -/
def wds (a b c n : Int) : Nat → List UInt8 → Option (List ByteArray)
  | _, [] => some []
  | i, x :: r => if x = 45 then wds a b c n (i + 1) r else if (wrV x.toNat (By.opdV a b c n i)).2 = true then (wds a b c n (i + 1) r).map ((wrV x.toNat (By.opdV a b c n i)).1 :: ·) else none

/-- What there is of an instruction's line: it, and the error. -/
noncomputable def txtV (o a b c n : Int) : ByteArray × Int :=
  if By.chV o a b c n ≠ 0 then (⟨#[]⟩, By.chV o a b c n) else if By.ownV o = false then (⟨#[]⟩, 8) else
    match wds a b c n 0 (By.shV o).data.toList with | some ws => (joinB (By.nmV o :: ws), 0) | none => (⟨#[]⟩, 9)

/-- The shapes: four letters at most; a class stands third. -/
theorem shape_facts (o : Int) : (By.shV o).size ≤ 4 ∧ ∀ (k : Nat) (x : UInt8), (By.shV o).data.toList[k]? = some x → x = 107 → k = 2 := by
  have h : ∀ i : Fin 25, (By.shB i.val).data.toList.length ≤ 4 ∧ ∀ k : Fin 4, ((By.shB i.val).data.toList.getD k.val 0 = 107 → k.val = 2) := by decide +kernel
  unfold By.shV
  split
  · rename_i ho
    obtain ⟨h1, h2⟩ := h ⟨o.toNat, by omega⟩
    simp only at h1 h2
    refine ⟨by rw [← len_list]; exact h1, fun k x hx hk => ?_⟩
    have hk4 : k < 4 := by have := (List.getElem?_eq_some_iff.1 hx).1; omega
    refine h2 ⟨k, hk4⟩ ?_
    simp only
    rw [List.getD_eq_getElem?_getD, hx]; exact hk
  · exact ⟨by decide, fun k x hx => by simp at hx⟩
theorem name_size (o : Int) : (By.nmV o).size ≤ 10 := by
  have h : ∀ i : Fin 29, (By.nmB i.val).data.toList.length ≤ 10 := by decide +kernel
  unfold By.nmV
  split
  · rw [← len_list]; exact h ⟨o.toNat, by omega⟩
  · decide
theorem text_size (n : Int) : (Si.textV n).size ≤ 10 := by
  have h : ∀ i : Fin 9, (Si.txB i.val).data.toList.length ≤ 10 := by decide +kernel
  unfold Si.textV
  split
  · rw [← len_list]; exact h ⟨n.toNat, by omega⟩
  · decide
theorem dec_size {v : Int} (h : I64 v) : (decB v).size ≤ 20 := (dec_facts h rfl).2.1
theorem opd_i64 {a b c n : Int} (ha : I64 a) (hb : I64 b) (hc : I64 c) (hn : I64 n) (i : Int) : I64 (By.opdV a b c n i) := by
  unfold By.opdV
  split
  · exact ha
  · split
    · exact hb
    · split
      · exact hc
      · split
        · exact hn
        · exact ⟨by omega, by omega⟩

/-- How far a line has come: behind k letters its text is t. -/
def LSt (o a b c n : Int) (k : Nat) (t : ByteArray) : Prop := ∃ done, t = joinB (By.nmV o :: done) ∧ wds a b c n 0 (By.shV o).data.toList = (wds a b c n k ((By.shV o).data.toList.drop k)).map (done ++ ·) ∧ t.size ≤ 10 + 30 * k

theorem LSt.start (o a b c n : Int) : LSt o a b c n 0 (By.nmV o) := ⟨[], by
  rw [joinB_one]; apply ba_ext; rw [ba_append]; simp, by simp, by have := name_size o; omega⟩

theorem drop_at {l : List UInt8} {k : Nat} {x : UInt8} (hx : l[k]? = some x) : l.drop k = x :: l.drop (k + 1) := by
  obtain ⟨h1, h2⟩ := List.getElem?_eq_some_iff.1 hx
  rw [← h2]; exact List.drop_eq_getElem_cons h1

theorem LSt.skip {o a b c n : Int} {k : Nat} {t : ByteArray} (h : LSt o a b c n k t) (hx : (By.shV o).data.toList[k]? = some 45) : LSt o a b c n (k + 1) t := by
  obtain ⟨done, h1, h2, h3⟩ := h
  refine ⟨done, h1, ?_, by omega⟩
  rw [h2, drop_at hx, wds, if_pos rfl]
theorem LSt.put {o a b c n : Int} {k : Nat} {t : ByteArray} (h : LSt o a b c n k t) {x : UInt8} (hx : (By.shV o).data.toList[k]? = some x) (h45 : x ≠ 45) (hw : (wrV x.toNat (By.opdV a b c n k)).2 = true) (hs : (wrV x.toNat (By.opdV a b c n k)).1.size ≤ 20) : LSt o a b c n (k + 1) (t ++ ⟨#[32]⟩ ++ (wrV x.toNat (By.opdV a b c n k)).1) := by
  obtain ⟨done, h1, h2, h3⟩ := h
  refine ⟨done ++ [(wrV x.toNat (By.opdV a b c n k)).1], ?_, ?_, ?_⟩
  · rw [h1, ← joinB_next _ _ (by simp)]; rfl
  · rw [h2, drop_at hx, wds, if_neg h45, if_pos hw]
    cases wds a b c n (k + 1) ((By.shV o).data.toList.drop (k + 1)) with
    | none => rfl
    | some r => simp
  · rw [ByteArray.size_append, ByteArray.size_append]
    show t.size + 1 + _ ≤ _
    omega
theorem LSt.none {o a b c n : Int} {k : Nat} {t : ByteArray} (h : LSt o a b c n k t) {x : UInt8} (hx : (By.shV o).data.toList[k]? = some x) (h45 : x ≠ 45) (hw : (wrV x.toNat (By.opdV a b c n k)).2 = false) : wds a b c n 0 (By.shV o).data.toList = Option.none := by
  obtain ⟨done, h1, h2, h3⟩ := h
  rw [h2, drop_at hx, wds, if_neg h45, if_neg (by rw [hw]; decide)]; rfl
theorem LSt.done {o a b c n : Int} {k : Nat} {t : ByteArray} (h : LSt o a b c n k t) (hk : (By.shV o).size ≤ k) : ∃ ws, wds a b c n 0 (By.shV o).data.toList = some ws ∧ joinB (By.nmV o :: ws) = t := by
  obtain ⟨done, h1, h2, h3⟩ := h
  rw [List.drop_of_length_le (by rw [len_list]; exact hk)] at h2
  exact ⟨done, by rw [h2]; simp [wds], h1.symm⟩
end Go.Proofs.YtnplhpbbdgnmiaaGreatDoor.Ln
