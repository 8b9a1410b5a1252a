/-
  INSTRUCTIONS OF LINES, in plain mathematics: what Parse answers; its rounds.
-/
import Derived.Test.YtnplhpbbdgnmiaaDoorLy
namespace Go.Proofs.YtnplhpbbdgnmiaaDoor.Ln
open Go.RowKit
open Mem Go.Lib

/-- Four operands; one of them put. -/
abbrev Q := Int × Int × Int × Int
def putQ (q : Q) (i : Nat) (m : Int) : Q := if i = 0 then (m, q.2.1, q.2.2.1, q.2.2.2) else if i = 1 then (q.1, m, q.2.2.1, q.2.2.2) else if i = 2 then (q.1, q.2.1, m, q.2.2.2) else if i = 3 then (q.1, q.2.1, q.2.2.1, m) else q
def insQ (o : Int) (q : Q) : Array Value := By.insC o q.1 q.2.1 q.2.2.1 q.2.2.2
theorem with_put (o : Int) (q : Q) (i : Nat) (m : Int) : By.withV o q.1 q.2.1 q.2.2.1 q.2.2.2 (i : Int) m = insQ o (putQ q i m) := by
  unfold By.withV putQ insQ
  by_cases h0 : i = 0
  · subst h0; simp
  · by_cases h1 : i = 1
    · subst h1; simp
    · by_cases h2 : i = 2
      · subst h2; simp
      · by_cases h3 : i = 3
        · subst h3; simp
        · rw [if_neg (by omega), if_neg (by omega), if_neg (by omega), if_neg (by omega), if_neg h0, if_neg h1, if_neg h2, if_neg h3]

/-- What the words say, letter by letter from place i on; none: they are not as the shape tells. -/
def rdL : Nat → List UInt8 → List ByteArray → Q → Option Q
  | _, [], [], q => some q
  | _, [], _ :: _, _ => none
  | i, x :: r, ws, q => if x = 45 then rdL (i + 1) r ws q else
    match ws with
    | [] => none
    | w :: ws => if (rdV x.toNat w).2 = true then rdL (i + 1) r ws (putQ q i (rdV x.toNat w).1) else none

theorem rdL_skip (i : Nat) (r : List UInt8) (ws : List ByteArray) (q : Q) : rdL i (45 :: r) ws q = rdL (i + 1) r ws q := by
  rw [rdL.eq_def]; simp only; rw [if_pos trivial]
theorem rdL_few (i : Nat) {x : UInt8} (r : List UInt8) (q : Q) (h : x ≠ 45) : rdL i (x :: r) [] q = none := by
  rw [rdL.eq_def]; simp only; rw [if_neg h]
theorem rdL_put (i : Nat) {x : UInt8} (r : List UInt8) (y : ByteArray) (ws : List ByteArray) (q : Q) (h : x ≠ 45) : rdL i (x :: r) (y :: ws) q = if (rdV x.toNat y).2 = true then rdL (i + 1) r ws (putQ q i (rdV x.toNat y).1) else none := by
  rw [rdL.eq_def]; simp only; rw [if_neg h]

def zeroI : Array Value := By.insC 0 0 0 0 0
/-- The instruction of a line, and the error. -/
noncomputable def parV (s : ByteArray) : Array Value × Int :=
  match wordsL s with
  | [] => (zeroI, 3)
  | w :: ws => if By.ownV (By.fnV w.data.toList) = false then (zeroI, 3) else
    match rdL 0 (By.shV (By.fnV w.data.toList)).data.toList ws (0, 0, 0, 0) with
    | none => (zeroI, 3)
    | some q => if By.chV (By.fnV w.data.toList) q.1 q.2.1 q.2.2.1 q.2.2.2 ≠ 0 then (zeroI, By.chV (By.fnV w.data.toList) q.1 q.2.1 q.2.2.1 q.2.2.2) else (insQ (By.fnV w.data.toList) q, 0)

/-- How far the rounds have come: behind k letters the operands are q, and m words are used. -/
def RSt (sh : List UInt8) (ws : List ByteArray) (k m : Nat) (q : Q) : Prop := rdL 0 sh ws (0, 0, 0, 0) = rdL k (sh.drop k) (ws.drop m) q ∧ m ≤ k ∧ m ≤ ws.length

theorem RSt.start (sh : List UInt8) (ws : List ByteArray) : RSt sh ws 0 0 (0, 0, 0, 0) := ⟨by simp, by omega, by omega⟩
theorem RSt.skip {sh : List UInt8} {ws : List ByteArray} {k m : Nat} {q : Q} (h : RSt sh ws k m q) (hx : sh[k]? = some 45) : RSt sh ws (k + 1) m q := by
  refine ⟨?_, by have := h.2.1; omega, h.2.2⟩
  rw [h.1, drop_at hx, rdL_skip]
theorem RSt.few {sh : List UInt8} {ws : List ByteArray} {k m : Nat} {q : Q} (h : RSt sh ws k m q) {x : UInt8} (hx : sh[k]? = some x) (h45 : x ≠ 45) (hm : ws.length ≤ m) : rdL 0 sh ws (0, 0, 0, 0) = Option.none := by
  rw [h.1, drop_at hx, List.drop_of_length_le hm, rdL_few _ _ _ h45]
theorem dropB_at {l : List ByteArray} {k : Nat} {x : ByteArray} (hx : l[k]? = some x) : l.drop k = x :: l.drop (k + 1) := by
  obtain ⟨h1, h2⟩ := List.getElem?_eq_some_iff.1 hx
  rw [← h2]; exact List.drop_eq_getElem_cons h1
theorem RSt.no {sh : List UInt8} {ws : List ByteArray} {k m : Nat} {q : Q} (h : RSt sh ws k m q) {x : UInt8} {y : ByteArray} (hx : sh[k]? = some x) (h45 : x ≠ 45) (hy : ws[m]? = some y) (hr : (rdV x.toNat y).2 = false) : rdL 0 sh ws (0, 0, 0, 0) = Option.none := by
  rw [h.1, drop_at hx, dropB_at hy, rdL_put _ _ _ _ _ h45, if_neg (by rw [hr]; decide)]
theorem RSt.put {sh : List UInt8} {ws : List ByteArray} {k m : Nat} {q : Q} (h : RSt sh ws k m q) {x : UInt8} {y : ByteArray} (hx : sh[k]? = some x) (h45 : x ≠ 45) (hy : ws[m]? = some y) (hr : (rdV x.toNat y).2 = true) : RSt sh ws (k + 1) (m + 1) (putQ q k (rdV x.toNat y).1) := by
  refine ⟨?_, by have := h.2.1; omega, by have := (List.getElem?_eq_some_iff.1 hy).1; omega⟩
  rw [h.1, drop_at hx, dropB_at hy, rdL_put _ _ _ _ _ h45, if_pos hr]
theorem RSt.more {sh : List UInt8} {ws : List ByteArray} {k m : Nat} {q : Q} (h : RSt sh ws k m q) (hk : sh.length ≤ k) (hm : m ≠ ws.length) : rdL 0 sh ws (0, 0, 0, 0) = Option.none := by
  have hm2 : m < ws.length := by have := h.2.2; omega
  rw [h.1, List.drop_of_length_le hk, List.drop_eq_getElem_cons hm2]
  rfl
theorem RSt.done {sh : List UInt8} {ws : List ByteArray} {k m : Nat} {q : Q} (h : RSt sh ws k m q) (hk : sh.length ≤ k) (hm : m = ws.length) : rdL 0 sh ws (0, 0, 0, 0) = some q := by
  rw [h.1, List.drop_of_length_le hk, List.drop_of_length_le (by omega)]
  rfl
end Go.Proofs.YtnplhpbbdgnmiaaDoor.Ln
