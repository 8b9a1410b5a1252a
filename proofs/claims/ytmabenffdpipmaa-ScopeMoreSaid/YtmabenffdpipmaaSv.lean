/-
  READING of a file that came in by value. LAW of layer 23: ScopeMore.
-/
import Derived.Test.YtmabenffdpipmaaSt
namespace Go.Proofs.Ytmabenffdpipmaa.By
open Go.Maps Go.Deep Go.ChangeShapes Go.WideShapes Go.ChangeAt Go.RowKit
open Mem Rf
set_option linter.unusedSimpArgs false
set_option linter.unusedVariables false

/-- What is known of a file that came in. -/
def ObIn (w : World) (o : Ob) : Prop := Wd 5 encSy w w.heap.size o.A o.n o.c o.l ∧ Rest w w.heap.size o.F o.D ∧ ∀ y ∈ o.l, y.1.size ≤ maxLen

theorem open_obj {H : Type} {enc : TypeId × Value → H} {W : World} {b : Nat} {held : Bool} {v : Value} {d : DataW H} {p : List MemPlace}
    (ho : Value.okWide Try.prog W .any b 40 v) (h : DataW.Trod enc Try.prog W 0 (fun _ => true) held 40 v d p) :
    ∃ o : Ob, v = .agg #[.slice o.A o.n o.c, slV o.F, slV o.D] ∧ ObIn W o := by
  obtain ⟨cs, rfl, hsz⟩ := okWide_struct Try.underlying40 ho
  obtain ⟨fuel, hf⟩ := h
  obtain ⟨q, hq, h1, h2, h3⟩ := ob_in hf
  refine ⟨q, ?_, h1, h2, h3⟩
  have hc : cs.toList = encOb q := by simpa [Value.cells] using hq
  congr 1
  exact Array.toList_inj.1 (by rw [hc]; rfl)

/-- A symbol as a local one that is defined. -/
def own1 (y : Sy) : Sy := (y.1, true, y.2.2.1, y.2.2.2.1, 0)
theorem own1_not (l : List Sy) : ∀ s ∈ l.map own1, isG s = false := fun s hs => by
  obtain ⟨y, _, rfl⟩ := List.mem_map.1 hs
  rfl
theorem own1_def (l : List Sy) : ∀ s ∈ l.map own1, s.2.2.2.2 ≠ -1 := fun s hs => by
  obtain ⟨y, _, rfl⟩ := List.mem_map.1 hs
  show (0 : Int) ≠ -1
  decide
theorem own1_names {l : List Sy} (h : ∀ y ∈ l, y.1.size ≤ maxLen) : ∀ y ∈ l.map own1, y.1.size ≤ maxLen := fun s hs => by
  obtain ⟨y, hy, rfl⟩ := List.mem_map.1 hs
  exact h y hy
theorem own1_take {l : List Sy} {k : Nat} (hk : k < l.length) : (l.map own1).take (k + 1) = (l.map own1).take k ++ [own1 (syAt l k)] := by
  have h : k < (l.map own1).length := by rw [List.length_map]; exact hk
  rw [List.take_succ_eq_append_getElem h]
  congr 2
  rw [List.getElem_map]
  unfold syAt
  rw [List.getD_eq_getElem?_getD, List.getElem?_eq_getElem hk]; rfl
theorem lists_more (os : List Ob) (o : Ob) : lists (os ++ [o]) = lists os ++ [o.l] := by unfold lists; rw [List.map_append]; rfl
theorem obAt_more {os : List Ob} {o : Ob} {n i : Nat} (hl : os.length = n) (hi : i < n) : obAt (os ++ [o]) i = obAt os i := by
  unfold obAt
  rw [List.getD_eq_getElem?_getD, List.getD_eq_getElem?_getD, List.getElem?_append_left (by omega)]
theorem obAt_last {os : List Ob} {o : Ob} {n : Nat} (hl : os.length = n) : obAt (os ++ [o]) n = o := by
  unfold obAt
  rw [List.getD_eq_getElem?_getD, List.getElem?_append_right (by omega), hl, Nat.sub_self]; rfl
theorem obL_more {w w' : World} {B : Nat} {A A' : Option Addr} {n c c' : Nat} {os : List Ob} {o : Ob} (h : ObL w B A n c os) (hB : B ≤ w.heap.size) (hb : Below w.heap.size w w') (ho : Wd 5 encSy w' w'.heap.size o.A o.n o.c o.l) (h' : Wd 3 encOb w' w'.heap.size A' (n + 1) c' (os ++ [o])) : ObL w' w'.heap.size A' (n + 1) c' (os ++ [o]) :=
  ⟨h', fun i hi => by
    by_cases e : i = n
    · subst e; rw [obAt_last h.1.1]; exact ho
    · rw [obAt_more h.1.1 (by omega)]; exact ((h.2 _ (by omega)).below (hb.mono hB)).more (Nat.le_trans hB hb.size)⟩
theorem nmp_more {os : List Ob} {o : Ob} (h : NmP os) (hc : (allS (lists os)).length ≤ 600) (ho : ∀ y ∈ o.l, y.1.size ≤ maxLen) (hl : o.l.length ≤ 60) : NmP (os ++ [o]) where
  names := fun x hx => by
    rw [lists_more, allS_more] at hx
    rcases List.mem_append.1 hx with hx | hx
    · exact h.names x hx
    · exact ho _ (row_more hx).2.1
  many := by
    rw [lists_more, allS_more, List.length_append, rowL_length, rowS_last]
    omega
theorem more_facts {os : List Ob} {o : Ob} {L : List (List Sy)} (hL : lists os = L) {l : List Sy} (ho : o.l = l.map own1) {n : Nat} (hn : L.length = n) (h6 : n < 6) :
    (n ≠ 0 → checkV (lists (os ++ [o])) = checkV L) ∧ ∀ i k, i < n → k < (rowS L i).length → boundV (lists (os ++ [o])) (i : Int) (k : Int) = boundV L (i : Int) (k : Int) := by
  subst hL hn
  rw [lists_more, ho]
  exact ⟨fun h0 => check_more (own1_not l) (own1_def l) h0 h6, fun i k hi hk => boundV_more (own1_not l) hi hk⟩
end Go.Proofs.Ytmabenffdpipmaa.By
