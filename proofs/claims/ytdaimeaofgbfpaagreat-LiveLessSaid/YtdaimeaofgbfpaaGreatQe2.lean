/-
 Qe2
-/
import Derived.Test.YtdaimeaofgbfpaaGreatZa2
import Derived.Test.YtdaimeaofgbfpaaGreatRows
import Derived.Test.YtdaimeaofgbfpaaGreatQb2
import Derived.WalkKit
import Derived.ProofKit
import Derived.Lib.Hide
import Derived.BigQuiet
import Derived.Deep.QuietTactic
import Derived.LoopTactic
import Derived.IntWalk
import Derived.Shelf.Abstract
import Derived.OwnWalkIn
import Derived.TacticsInMore
import Derived.LoopNIn
import Derived.LoopIn
import Derived.RangeFuncBox
import Derived.Maps.OwnSet
import Derived.Deep.Matrix
import Derived.Deep.Slices
import Derived.ChangeSame
import Derived.ChangeOld
import Derived.ChangeShapes
import Derived.ChangeArms
import Derived.OpenShut
import Derived.Laws.OwnMore
import Derived.Laws.AppendOwn
import Derived.Laws.AppendOwnNone
set_option linter.unusedSimpArgs false
set_option linter.unusedVariables false
namespace Go.Proofs.YtdaimeaofgbfpaaGreat.Bo
open Go.RowKit
open Mem Rf
section
variable {α : Type} {k : Nat} {enc : α → List Value} {w w' : World} {B B' n c : Nat} {v : Value} {A : Option Addr} {l : List α}
theorem Wd.few (h : Wd k enc w B A n c l) : n ≤ 9223372036854775807 := by
 have h1 := h.2.1
 have h2 := h.2.2.1
 unfold maxLen at h2; omega
end
abbrev Pl := Nat × Nat
abbrev Gs := Pl × Sy
def rowS (L : List (List Sy)) (i : Nat) : List Sy := L.getD i []
def atS (L : List (List Sy)) (i k : Nat) : Sy := syAt (rowS L i) k
def rowL (L : List (List Sy)) (i : Nat) : List Gs := (List.range (rowS L i).length).map fun k => ((i, k), atS L i k)
def upTo (L : List (List Sy)) (i j : Nat) : List Gs := ((List.range i).flatMap (rowL L)) ++ (rowL L i).take j
def allS (L : List (List Sy)) : List Gs := (List.range L.length).flatMap (rowL L)
theorem rowL_length (L : List (List Sy)) (i : Nat) : (rowL L i).length = (rowS L i).length := by simp [rowL]
theorem upTo_zero (L : List (List Sy)) (i : Nat) : upTo L i 0 = (List.range i).flatMap (rowL L) := by simp [upTo]
theorem upTo_next (L : List (List Sy)) (i : Nat) : upTo L i (rowS L i).length = upTo L (i + 1) 0 := by
 rw [upTo_zero, List.range_succ, List.flatMap_append, upTo, ← rowL_length, List.take_length]; simp
theorem upTo_more (L : List (List Sy)) (i j : Nat) (h : j < (rowS L i).length) : upTo L i (j + 1) = upTo L i j ++ [((i, j), atS L i j)] := by
 have h' : j < (rowL L i).length := by rw [rowL_length]; exact h
 unfold upTo
 rw [List.take_succ_eq_append_getElem h', List.append_assoc]
 congr 2
 simp [rowL]
theorem upTo_all (L : List (List Sy)) : upTo L L.length 0 = allS L := upTo_zero _ _
theorem upTo_up (L : List (List Sy)) (i : Nat) : upTo L i 0 <+: upTo L (i + 1) 0 := by
 rw [upTo_zero, upTo_zero, List.range_succ, List.flatMap_append]; exact List.prefix_append _ _
theorem upTo_pre (L : List (List Sy)) : ∀ d i, i + d = L.length → upTo L i 0 <+: allS L
 | 0, i, h => by rw [← upTo_all, show i = L.length by omega]; exact List.prefix_refl _
 | d + 1, i, h => (upTo_up L i).trans (upTo_pre L d (i + 1) (by omega))
theorem upTo_in (L : List (List Sy)) {i j : Nat} (hi : i < L.length) : upTo L i j <+: allS L := by
 refine List.IsPrefix.trans ?_ (upTo_pre L (L.length - (i + 1)) (i + 1) (by omega))
 rw [← upTo_next]
 unfold upTo
 refine (List.prefix_append_right_inj _).2 ?_
 rw [← rowL_length, List.take_length]
 exact List.take_prefix j _
theorem mem_allS {L : List (List Sy)} {x : Gs} (h : x ∈ allS L) : x.1.1 < L.length ∧ x.1.2 < (rowS L x.1.1).length ∧ x.2 = atS L x.1.1 x.1.2 := by
 unfold allS at h
 obtain ⟨i, hi, hx⟩ := List.mem_flatMap.1 h
 unfold rowL at hx
 obtain ⟨k, hk, rfl⟩ := List.mem_map.1 hx
 exact ⟨List.mem_range.1 hi, List.mem_range.1 hk, rfl⟩
def isG (s : Sy) : Bool := !s.2.1 && decide (s.2.2.2.2 ≠ -1)
def globs (L : List (List Sy)) : List Gs := (allS L).filter fun x => isG x.2
def firstOf (gs : List Gs) (nm : ByteArray) : Option Pl := (gs.find? fun x => decide (x.2.1 = nm)).map (·.1)
def findV (L : List (List Sy)) (nm : ByteArray) : Option Pl := firstOf (globs L) nm
theorem firstOf_snoc (gs : List Gs) (x : Gs) (nm : ByteArray) : firstOf (gs ++ [x]) nm = match firstOf gs nm with | some p => some p | none => if x.2.1 = nm then some x.1 else none := by
 unfold firstOf
 rw [List.find?_append]
 cases h : gs.find? fun x => decide (x.2.1 = nm) with
 | some y => simp
 | none =>
  by_cases hx : x.2.1 = nm
  ·simp [hx]
  ·simp [hx]
theorem firstOf_some {gs : List Gs} {nm : ByteArray} {p : Pl} (h : firstOf gs nm = some p) : ∃ s : Sy, (p, s) ∈ gs ∧ s.1 = nm := by
 unfold firstOf at h
 obtain ⟨y, hy, rfl⟩ := Option.map_eq_some_iff.1 h
 exact ⟨y.2, List.mem_of_find?_eq_some hy, by simpa using List.find?_some hy⟩
theorem findV_some {L : List (List Sy)} {nm : ByteArray} {p : Pl} (h : findV L nm = some p) : p.1 < L.length ∧ p.2 < (rowS L p.1).length ∧ (atS L p.1 p.2).1 = nm ∧ isG (atS L p.1 p.2) = true := by
 obtain ⟨s, hs, rfl⟩ := firstOf_some h
 obtain ⟨h1, h2⟩ := List.mem_filter.1 hs
 obtain ⟨a, b, c⟩ := mem_allS h1
 dsimp only at a b c h2
 subst c
 exact ⟨a, b, rfl, h2⟩
end Go.Proofs.YtdaimeaofgbfpaaGreat.Bo
namespace Go.Proofs.YtdaimeaofgbfpaaGreat.Bo
open Go.RowKit
open Mem Rf
attribute [local go_sem] Oper.semAt_some
end Go.Proofs.YtdaimeaofgbfpaaGreat.Bo
namespace Go.Proofs.YtdaimeaofgbfpaaGreat.Bo
open Go.RowKit
open Mem Rf
def boundAt (L : List (List Sy)) (p : Pl) : Pl × Int :=
 if (atS L p.1 p.2).2.2.2.2 ≠ -1 then (p, 0) else match findV L (atS L p.1 p.2).1 with
  | none => ((0, 0), 13)
  | some q => if (atS L q.1 q.2).2.2.1 ≠ (atS L p.1 p.2).2.2.1 ∨ (atS L q.1 q.2).2.2.2.1 ≠ (atS L p.1 p.2).2.2.2.1 then ((0, 0), 14) else (q, 0)
def twiceV (L : List (List Sy)) : Option Pl := ((globs L).find? fun x => decide (findV L x.2.1 ≠ some x.1)).map (·.1)
def looseV (L : List (List Sy)) : Option Pl := ((allS L).find? fun x => decide ((boundAt L x.1).2 ≠ 0)).map (·.1)
def checkV (L : List (List Sy)) : Int × Int × Int :=
 if L.length = 0 ∨ 6 < L.length then (19, -1, -1) else match twiceV L with
  | some p => (12, p.1, p.2)
  | none => match looseV L with
   | some p => ((boundAt L p).2, p.1, p.2)
   | none => (0, 0, 0)
theorem findV_is {L : List (List Sy)} {x : Gs} (h : x ∈ globs L) : ∃ p, findV L x.2.1 = some p := by
 unfold findV firstOf
 cases hf : (globs L).find? fun y => decide (y.2.1 = x.2.1) with
 | some y => exact ⟨y.1, rfl⟩
 | none =>
  have := List.find?_eq_none.1 hf x h
  simp at this
theorem check_ok {L : List (List Sy)} (h : (checkV L).1 = 0) : L.length ≠ 0 ∧ L.length ≤ 6 ∧ twiceV L = none ∧ looseV L = none := by
 unfold checkV at h
 split at h
 ·cases h
 ·rename_i h0
  split at h
  ·cases h
  ·rename_i h1
   split at h
   ·rename_i p h2
    unfold looseV at h2
    obtain ⟨y, hy, rfl⟩ := Option.map_eq_some_iff.1 h2
    have := List.find?_some hy
    simp at this
    exact absurd h this
   ·rename_i h2
    exact ⟨by omega, by omega, h1, h2⟩
section
variable {L : List (List Sy)} {M : List Sy}
end
section
variable {L : List (List Sy)}
end
theorem eq_text (a b : ByteArray) : (ByteArray.toList a == ByteArray.toList b) = decide (a = b) := by
 rw [ByteArray.toList_eq, ByteArray.toList_eq]
 by_cases h : a = b
 ·subst h; simp
 ·have : ¬ a.data = b.data := fun e => h (by cases a; cases b; simp only at e; rw [e])
  simp [h, this]
theorem firstOf_pre {a b : List Gs} (h : a <+: b) {nm : ByteArray} {p : Pl} (hf : firstOf a nm = some p) : firstOf b nm = some p := by
 obtain ⟨t, rfl⟩ := h
 unfold firstOf at hf ⊢
 rw [List.find?_append]
 cases hx : a.find? fun x => decide (x.2.1 = nm) with
 | none => rw [hx] at hf; simp at hf
 | some y => rw [hx] at hf; simpa using hf
def upG (L : List (List Sy)) (i j : Nat) : List Gs := (upTo L i j).filter fun x => isG x.2
theorem upG_more {L : List (List Sy)} {i j : Nat} (h : j < (rowS L i).length) : upG L i (j + 1) = upG L i j ++ (if isG (atS L i j) then [((i, j), atS L i j)] else []) := by
 unfold upG
 rw [upTo_more _ _ _ h, List.filter_append]
 by_cases hg : isG (atS L i j) = true
 ·simp [hg]
 ·simp [hg]
theorem upG_in {L : List (List Sy)} {i j : Nat} (h : i < L.length) : upG L i j <+: globs L := (upTo_in L h).filter _
theorem upG_next (L : List (List Sy)) (i : Nat) : upG L i (rowS L i).length = upG L (i + 1) 0 := by unfold upG; rw [upTo_next]
theorem upG_all (L : List (List Sy)) : upG L L.length 0 = globs L := by unfold upG globs; rw [upTo_all]
theorem upG_zero (L : List (List Sy)) : upG L 0 0 = [] := by simp [upG, upTo]
structure Fs (w : World) (B : Nat) (A : Option Addr) (n c : Nat) (L : List (List Sy)) : Prop where
 len : L.length = n
 few : n ≤ 9223372036854775807
 row : ∀ i, i < n → ∃ ad oA on oc fA fn fc dA dn dc, A = some ad ∧ ad.block < B ∧ w.cell? (ad.add (i * 3)) = some (.slice oA on oc) ∧ w.cell? ⟨(ad.add (i * 3)).block, (ad.add (i * 3)).off + 1, none⟩ = some (.slice fA fn fc) ∧ w.cell? ⟨(ad.add (i * 3)).block, (ad.add (i * 3)).off + 2, none⟩ = some (.slice dA dn dc) ∧
  (rowS L i).length = on ∧ on ≤ 9223372036854775807 ∧ ∀ k, k < on → ∃ ad2, oA = some ad2 ∧ ad2.block < B ∧ w.cell? (ad2.add (k * 5)) = some (.string (atS L i k).1) ∧ w.cell? ⟨(ad2.add (k * 5)).block, (ad2.add (k * 5)).off + 1, none⟩ = some (.bool (atS L i k).2.1) ∧ w.cell? ⟨(ad2.add (k * 5)).block, (ad2.add (k * 5)).off + 2, none⟩ = some (.int .i64 (atS L i k).2.2.1) ∧ w.cell? ⟨(ad2.add (k * 5)).block, (ad2.add (k * 5)).off + 3, none⟩ = some (.int .i64 (atS L i k).2.2.2.1) ∧ w.cell? ⟨(ad2.add (k * 5)).block, (ad2.add (k * 5)).off + 4, none⟩ = some (.int .i64 (atS L i k).2.2.2.2)
theorem Fs.on {w w' : World} {B : Nat} {A : Option Addr} {n c : Nat} {L : List (List Sy)} (h : Fs w B A n c L) (hk : ∀ p : Addr, p.block < B → w'.cell? p = w.cell? p) : Fs w' B A n c L where
 len := h.len
 few := h.few
 row := fun i hi => by
  obtain ⟨ad, oA, on, oc, fA, fn, fc, dA, dn, dc, e, hb, c0, c1, c2, h1, h2, h3⟩ := h.row i hi
  refine ⟨ad, oA, on, oc, fA, fn, fc, dA, dn, dc, e, hb, (hk _ (by rw [add_block]; exact hb)).trans c0, (hk _ (by show (ad.add (i * 3)).block < B; rw [add_block]; exact hb)).trans c1, (hk _ (by show (ad.add (i * 3)).block < B; rw [add_block]; exact hb)).trans c2, h1, h2, fun k hkk => ?_⟩
  obtain ⟨ad2, e2, hb2, s0, s1, s2, s3, s4⟩ := h3 k hkk
  have f : ∀ j, (⟨(ad2.add (k * 5)).block, (ad2.add (k * 5)).off + j, none⟩ : Addr).block < B := fun j => by show (ad2.add (k * 5)).block < B; rw [add_block]; exact hb2
  exact ⟨ad2, e2, hb2, (hk _ (by rw [add_block]; exact hb2)).trans s0, (hk _ (f 1)).trans s1, (hk _ (f 2)).trans s2, (hk _ (f 3)).trans s3, (hk _ (f 4)).trans s4⟩
theorem Fs.below {w w' : World} {B : Nat} {A : Option Addr} {n c : Nat} {L : List (List Sy)} (h : Fs w B A n c L) (hB : B ≤ w.heap.size) (hb : Below w.heap.size w w') : Fs w' B A n c L := h.on fun p hp => hb.cell (Nat.lt_of_lt_of_le hp hB)
theorem rglobal_any (s : Sy) (w : World) : Calls Tryz.prog 77 #[syV s] w fun e w' => e = .returned (.bool (isG s)) ∧ Below w.heap.size w w' := by
 obtain ⟨y0, y1, y2, y3, y4⟩ := s
 unfold syV isG
 dsimp only
 obtain ⟨b, hb⟩ : ∃ b, decide (y4 ≠ -1) = b := ⟨_, rfl⟩
 rw [hb]
 have hb' : (y4 != -1) = b := by rw [← hb]; by_cases h : y4 = -1 <;> simp [h]
 clear hb
 cases y1 with
 | true =>
  go_enter Tryz.func77, Tryz.ntmps77
  go_wp2_with fail
  go_ret
  exact ⟨rfl, (Below.refl _ _).alloc (Nat.le_refl _) _⟩
 | false =>
  go_enter Tryz.func77, Tryz.ntmps77
  go_wp2_with fail
  go_ret
  exact ⟨rfl, (Below.refl _ _).alloc (Nat.le_refl _) _⟩
def findE (o : Option Pl) : Value := .tuple #[.int .i64 ((o.getD (0, 0)).1 : Int), .int .i64 ((o.getD (0, 0)).2 : Int), .bool o.isSome]
set_option maxRecDepth 100000 in
set_option maxHeartbeats 2000000 in
theorem rfind_any (A : Option Addr) (n c B : Nat) (L : List (List Sy)) (nm : ByteArray) (w : World) (h : Fs w B A n c L) (hB : B ≤ w.heap.size) :
  Calls Tryz.prog 40 #[.slice A n c, .string nm] w fun e w' => e = .returned (findE (findV L nm)) ∧ Below w.heap.size w w' := by
 have HF := Hd h
 have HB := Hd hB
 have hn := h.few
 have HR := Hd (fun W (hb : Below w.heap.size w W) => h.below hB hb)
 have HA := Hd (show upG L n 0 = globs L by rw [← h.len]; exact upG_all L)
 have HIN := Hd (show ∀ i j, i < n → upG L i j <+: globs L from fun i j hi => upG_in (by rw [h.len]; exact hi))
 clear h hB
 go_enter Tryz.func40, Tryz.ntmps40
 go_wp2_with fail
 go_loopw [7] (fun i wr => ∃ k : Nat, k ≤ n ∧ i = .int .i64 (k : Int) ∧ firstOf (upG L k 0) nm = none ∧ Below w.heap.size w wr) (fun i _ => n - (intOf i).toNat)
 case atStart => exact ⟨0, Nat.zero_le _, rfl, by rw [upG_zero]; rfl, Below.refl _ _⟩
 case round =>
  obtain ⟨k, hk, rfl, hno, hbel⟩ := hrel
  by_cases hlt : k < n
  ·have hkI : (k : Int) < (n : Int) := by omega
   have hk0 : (0 : Int) ≤ (k : Int) := by omega
   obtain ⟨wz, hwz⟩ : ∃ wz, wz = wr := ⟨_, rfl⟩
   subst hwz
   have HNO := Hd hno
   have HBE := Hd hbel
   have HLEN := Hd (HR.out _ hbel)
   obtain ⟨on, hon⟩ : ∃ on, (rowS L k).length = on := ⟨_, rfl⟩
   have HON := Hd hon
   have honm : on ≤ 9223372036854775807 := by
    obtain ⟨_, _, _, _, _, _, _, _, _, _, _, _, _, _, _, h1, h2, _⟩ := HLEN.out.row k hlt
    omega
   clear hno hbel hon
   go_wp2_with fail
   go_loopw [8] (fun i wr => ∃ j : Nat, j ≤ on ∧ i = .int .i64 (j : Int) ∧ firstOf (upG L k j) nm = none ∧ Below w.heap.size w wr) (fun i _ => on - (intOf i).toNat)
   case atStart => exact ⟨0, Nat.zero_le _, rfl, HNO.out, HBE.out⟩
   case round =>
    obtain ⟨j, hj, rfl, hno, hbel⟩ := hrel
    obtain ⟨ad, oA, on', oc, fA, fn, fc, dA, dn, dc, rfl, hblk, c0, c1, c2, h1, h2, h3⟩ := (HR.out wr hbel).row k hlt
    obtain rfl : on' = on := by rw [← h1, HON.out]
    clear h1 h2 c1 c2
    by_cases hjl : j < on'
    ·have hjI : (j : Int) < (on' : Int) := by omega
     have hj0 : (0 : Int) ≤ (j : Int) := by omega
     obtain ⟨ad2, rfl, hb2, s0, s1, s2, s3, s4⟩ := h3 j hjl
     have HM := Hd (upG_more (L := L) (i := k) (j := j) (by rw [HON.out]; exact hjl))
     have HI := Hd (HIN.out k (j + 1) hlt)
     have HBE2 := Hd hbel
     have HNO2 := Hd hno
     clear h3 hbel hno
     generalize atS L k j = s at *
     obtain ⟨wa, hwa⟩ : ∃ wa, wr.alloc (.cells (encSy s).toArray 79) = wa := ⟨_, rfl⟩
     have HWA := Hd (show Below wr.heap.size wr wa from hwa ▸ (Below.refl _ _).alloc (Nat.le_refl _) _)
     have HG := Hd (rglobal_any s wa)
     have hq := eq_text s.1 nm
     obtain ⟨y0, y1, y2, y3, y4⟩ := s
     unfold syV at HG
     unfold encSy at hwa
     dsimp only at s0 s1 s2 s3 s4 hq HG hwa
     have hbk : Blk wa wr.heap.size 79 #[.string y0, .bool y1, .int .i64 y2, .int .i64 y3, .int .i64 y4] := by rw [← hwa]; exact Blk.new _ _ _
     have cw : wa.cell? ⟨wr.heap.size, 0, none⟩ = some (.string y0) := hbk.cell 0
     have cw1 : wa.cell? ⟨wr.heap.size, 1, none⟩ = some (.bool y1) := hbk.cell 1
     have cw2 : wa.cell? ⟨wr.heap.size, 2, none⟩ = some (.int .i64 y2) := hbk.cell 2
     have cw3 : wa.cell? ⟨wr.heap.size, 3, none⟩ = some (.int .i64 y3) := hbk.cell 3
     have cw4 : wa.cell? ⟨wr.heap.size, 4, none⟩ = some (.int .i64 y4) := hbk.cell 4
     clear hbk
     have hsz : wr.heap.size < wa.heap.size := by rw [← hwa]; simp
     by_cases hg : isG (y0, y1, y2, y3, y4) = true
     ·rw [if_pos hg] at HM
      rw [hg] at HG
      by_cases he : y0 = nm
      ·have hq' : (ByteArray.toList y0 == ByteArray.toList nm) = true := by rw [hq]; simpa using he
       have HV := Hd (show findV L nm = some (k, j) from firstOf_pre HI.out (by rw [HM.out, firstOf_snoc, HNO2.out]; simp [he]))
       clear hq hg he
       go_wp2_with (go_at_call 77; refine HG.out.mono ?_; rintro e w2 ⟨rfl, hb2⟩; have d0 := (hb2.cell hsz).trans cw; have HB2 := Hd hb2; clear hb2)
       refine bodyPost_ret (v := findE (some (k, j))) (by simp [results, Tryz.results40, go_sem, findE]) rfl ⟨by rw [HV.out], ?_⟩
       exact (HBE2.out.trans (HWA.out.mono HBE2.out.size)).trans (HB2.out.mono (Nat.le_trans HBE2.out.size HWA.out.size))
      ·have hq' : (ByteArray.toList y0 == ByteArray.toList nm) = false := by rw [hq]; simpa using he
       have HV := Hd (show firstOf (upG L k (j + 1)) nm = none by rw [HM.out, firstOf_snoc, HNO2.out]; simp [he])
       clear hq hg he
       go_wp2_with (go_at_call 77; refine HG.out.mono ?_; rintro e w2 ⟨rfl, hb2⟩; have d0 := (hb2.cell hsz).trans cw; have HB2 := Hd hb2; clear hb2)
       go_roundw
       case rel => exact ⟨j + 1, by omega, by go_num, HV.out, (HBE2.out.trans (HWA.out.mono HBE2.out.size)).trans (HB2.out.mono (Nat.le_trans HBE2.out.size HWA.out.size))⟩
       case measure => simp [intOf]; omega
     ·have hg' : isG (y0, y1, y2, y3, y4) = false := by simpa using hg
      rw [hg'] at HM HG
      have HV := Hd (show firstOf (upG L k (j + 1)) nm = none by rw [HM.out]; simp [HNO2.out])
      clear hq hg hg'
      go_wp2_with (go_at_call 77; refine HG.out.mono ?_; rintro e w2 ⟨rfl, hb2⟩; have HB2 := Hd hb2; clear hb2)
      go_roundw
      case rel => exact ⟨j + 1, by omega, by go_num, HV.out, (HBE2.out.trans (HWA.out.mono HBE2.out.size)).trans (HB2.out.mono (Nat.le_trans HBE2.out.size HWA.out.size))⟩
      case measure => simp [intOf]; omega
    ·obtain rfl : j = on' := by omega
     have HV := Hd (show firstOf (upG L (k + 1) 0) nm = none by rw [← upG_next, HON.out]; exact hno)
     clear hno
     go_wp2_with fail
     go_roundw
     case rel => exact ⟨k + 1, by omega, by go_num, HV.out, hbel⟩
     case measure => simp [intOf]; omega
  ·obtain rfl : k = n := by omega
   rw [HA.out] at hno
   have HV := Hd (show findV L nm = none from hno)
   clear hno
   go_wp2_with fail
   refine bodyPost_ret (v := findE none) (by simp [results, Tryz.results40, go_sem, findE]) rfl ⟨by rw [HV.out], hbel⟩
def boundE (r : Pl × Int) : Value := .tuple #[.int .i64 (r.1.1 : Int), .int .i64 (r.1.2 : Int), .int .i64 r.2]
theorem boundAt_own {L : List (List Sy)} {p : Pl} (h : (atS L p.1 p.2).2.2.2.2 ≠ -1) : boundAt L p = (p, 0) := by unfold boundAt; rw [if_pos h]
theorem boundAt_none {L : List (List Sy)} {p : Pl} (h : (atS L p.1 p.2).2.2.2.2 = -1) (hf : findV L (atS L p.1 p.2).1 = none) : boundAt L p = ((0, 0), 13) := by unfold boundAt; rw [if_neg (by simpa using h), hf]
theorem boundAt_class {L : List (List Sy)} {p q : Pl} (h : (atS L p.1 p.2).2.2.2.2 = -1) (hf : findV L (atS L p.1 p.2).1 = some q) (hc : (atS L q.1 q.2).2.2.1 ≠ (atS L p.1 p.2).2.2.1 ∨ (atS L q.1 q.2).2.2.2.1 ≠ (atS L p.1 p.2).2.2.2.1) : boundAt L p = ((0, 0), 14) := by
 unfold boundAt; rw [if_neg (by simpa using h), hf]; dsimp only; rw [if_pos hc]
theorem boundAt_to {L : List (List Sy)} {p q : Pl} (h : (atS L p.1 p.2).2.2.2.2 = -1) (hf : findV L (atS L p.1 p.2).1 = some q) (h1 : (atS L q.1 q.2).2.2.1 = (atS L p.1 p.2).2.2.1) (h2 : (atS L q.1 q.2).2.2.2.1 = (atS L p.1 p.2).2.2.2.1) : boundAt L p = (q, 0) := by
 unfold boundAt; rw [if_neg (by simpa using h), hf]; dsimp only; rw [if_neg (by simp [h1, h2])]
set_option maxRecDepth 100000 in
set_option maxHeartbeats 2000000 in
theorem rbound_in (A : Option Addr) (n c B : Nat) (L : List (List Sy)) (w : World) (h : Fs w B A n c L) (hB : B ≤ w.heap.size) (i k : Nat) (hi : i < n) (hk : k < (rowS L i).length) :
  Calls Tryz.prog 76 #[.slice A n c, .int .i64 (i : Int), .int .i64 (k : Int)] w fun e w' => e = .returned (boundE (boundAt L (i, k))) ∧ Below w.heap.size w w' := by
 have HF := Hd h
 have hn := h.few
 have HR := Hd (fun W (hb : Below w.heap.size w W) => h.below hB hb)
 have HB := Hd hB
 obtain ⟨ad, oA, on, oc, fA, fn, fc, dA, dn, dc, rfl, hblk, c0, c1, c2, h1, h2, h3⟩ := h.row i hi
 rw [h1] at hk
 have HON := Hd h1
 obtain ⟨ad2, rfl, hb2, s0, s1, s2, s3, s4⟩ := h3 k hk
 have hiI : (i : Int) < (n : Int) := by omega
 have hi0 : (0 : Int) ≤ (i : Int) := by omega
 have hkI : (k : Int) < (on : Int) := by omega
 have hk0 : (0 : Int) ≤ (k : Int) := by omega
 have hi1 : ¬ (i : Int) < 0 := by omega
 have hi2 : ¬ (n : Int) ≤ (i : Int) := by omega
 have hk1 : ¬ (k : Int) < 0 := by omega
 have hk2 : ¬ (on : Int) ≤ (k : Int) := by omega
 have HOWN := Hd (fun e => boundAt_own (L := L) (p := (i, k)) e)
 have HNON := Hd (fun e f => boundAt_none (L := L) (p := (i, k)) e f)
 have HCLA := Hd (fun q e f g => boundAt_class (L := L) (p := (i, k)) (q := q) e f g)
 have HTO := Hd (fun q e f g g2 => boundAt_to (L := L) (p := (i, k)) (q := q) e f g g2)
 dsimp only at HOWN HNON HCLA HTO
 obtain ⟨r, hr⟩ : ∃ r, boundAt L (i, k) = r := ⟨_, rfl⟩
 rw [hr] at HOWN HNON HCLA HTO ⊢
 clear hr h h1 h3 hB
 generalize atS L i k = s at *
 obtain ⟨y0, y1, y2, y3, y4⟩ := s
 dsimp only at s0 s1 s2 s3 s4 HOWN HNON HCLA HTO
 by_cases hd : y4 = -1
 ·have hd' : (y4 != -1) = false := by simp [hd]
  have hsz := World.block_lt_of_cell? w _ s0
  obtain ⟨wa, hwa⟩ : ∃ wa, w.alloc (.cells #[.string y0, .bool y1, .int .i64 y2, .int .i64 y3, .int .i64 y4] 79) = wa := ⟨_, rfl⟩
  have HWA := Hd (show Below w.heap.size w wa from hwa ▸ (Below.refl _ _).alloc (Nat.le_refl _) _)
  have hbk : Blk wa w.heap.size 79 #[.string y0, .bool y1, .int .i64 y2, .int .i64 y3, .int .i64 y4] := by rw [← hwa]; exact Blk.new _ _ _
  have e0 : wa.cell? ⟨w.heap.size, 0, none⟩ = some (.string y0) := hbk.cell 0
  have e4 : wa.cell? ⟨w.heap.size, 4, none⟩ = some (.int .i64 y4) := hbk.cell 4
  have HBK := Hd hbk
  have HFI := Hd (rfind_any (some ad) n c B L y0 wa (HR.out wa HWA.out) (Nat.le_trans HB.out HWA.out.size))
  have HD := Hd hd
  have e2 : wa.cell? ⟨w.heap.size, 2, none⟩ = some (.int .i64 y2) := hbk.cell 2
  have e3 : wa.cell? ⟨w.heap.size, 3, none⟩ = some (.int .i64 y3) := hbk.cell 3
  have hlw := hbk.lt
  cases hf : findV L y0 with
  | none =>
   obtain rfl := HNON.out hd hf
   rw [hf] at HFI
   unfold findE at HFI
   dsimp only [Option.getD, Option.isSome] at HFI
   clear hd hf hbk
   go_enter Tryz.func76, Tryz.ntmps76
   go_wp2_with (go_at_call 40; refine HFI.out.mono ?_; rintro e w2 ⟨rfl, hb2⟩; have HB2 := Hd hb2; clear hb2)
   refine bodyPost_ret (v := boundE ((0, 0), 13)) (by simp [results, Tryz.results76, go_sem, boundE]) rfl ⟨rfl, HWA.out.trans (HB2.out.mono HWA.out.size)⟩
  | some q =>
   obtain ⟨qa, qb⟩ := q
   obtain ⟨q1, q2, _, _⟩ := findV_some hf
   dsimp only at q1 q2
   have HCL := Hd (fun f => HCLA.out (qa, qb) hd hf f)
   have HTT := Hd (fun f g => HTO.out (qa, qb) hd hf f g)
   rw [hf] at HFI
   unfold findE at HFI
   dsimp only [Option.getD, Option.isSome] at HFI HCL HTT
   have q1' : qa < n := by have := HF.out.len; omega
   have HQ := Hd (fun W hb => (HR.out W hb).row qa q1')
   have HQ2 := Hd q2
   have hqI : (qa : Int) < (n : Int) := by omega
   have hq0 : (0 : Int) ≤ (qa : Int) := by omega
   have hqb0 : (0 : Int) ≤ (qb : Int) := by omega
   clear hd hf hbk q1 q2 HTO HCLA HOWN HNON
   obtain ⟨⟨z0, z1, z2, z3, z4⟩, hz⟩ : ∃ z, atS L qa qb = z := ⟨_, rfl⟩
   rw [hz] at HCL HTT
   dsimp only at HCL HTT
   have HZ := Hd hz
   clear hz
   by_cases k2 : z2 = y2
   ·by_cases k3 : z3 = y3
    ·obtain rfl := HTT.out k2 k3
     have k2' : (z2 != y2) = false := by simp [k2]
     have k3' : (z3 != y3) = false := by simp [k3]
     clear k2 k3
     go_enter Tryz.func76, Tryz.ntmps76
     go_wp2_with (go_at_call 40; refine HFI.out.mono ?_; rintro e w2 ⟨rfl, hb2⟩; have d2 := (hb2.cell hlw).trans e2; have d3 := (hb2.cell hlw).trans e3; have hl2 := Nat.lt_of_lt_of_le hlw hb2.size; have HB2 := Hd (HWA.out.trans (hb2.mono HWA.out.size)); clear hb2; obtain ⟨ax, zA, zn, zc, gA, gn, gc, kA, kn, kc, hax, ablk, a0, a1, a2, g1, g2, g3⟩ := HQ.out w2 HB2.out; injection hax with hax; subst hax; obtain ⟨ay, rfl, hyb, t0, t1, t2, t3, t4⟩ := g3 qb (by rw [← g1]; exact HQ2.out); have hqbI : (qb : Int) < (zn : Int) := (by have := HQ2.out; omega); clear g1 g2 g3 a1 a2; rw [HZ.out] at t0 t1 t2 t3 t4)
     refine bodyPost_ret (v := boundE ((qa, qb), 0)) (by simp [results, Tryz.results76, go_sem, boundE]) rfl ⟨rfl, HB2.out.alloc HB2.out.size _⟩
    ·obtain rfl := HCL.out (.inr k3)
     have k2' : (z2 != y2) = false := by simp [k2]
     have k3' : (z3 != y3) = true := by simp [k3]
     clear k2 k3
     go_enter Tryz.func76, Tryz.ntmps76
     go_wp2_with (go_at_call 40; refine HFI.out.mono ?_; rintro e w2 ⟨rfl, hb2⟩; have d2 := (hb2.cell hlw).trans e2; have d3 := (hb2.cell hlw).trans e3; have hl2 := Nat.lt_of_lt_of_le hlw hb2.size; have HB2 := Hd (HWA.out.trans (hb2.mono HWA.out.size)); clear hb2; obtain ⟨ax, zA, zn, zc, gA, gn, gc, kA, kn, kc, hax, ablk, a0, a1, a2, g1, g2, g3⟩ := HQ.out w2 HB2.out; injection hax with hax; subst hax; obtain ⟨ay, rfl, hyb, t0, t1, t2, t3, t4⟩ := g3 qb (by rw [← g1]; exact HQ2.out); have hqbI : (qb : Int) < (zn : Int) := (by have := HQ2.out; omega); clear g1 g2 g3 a1 a2; rw [HZ.out] at t0 t1 t2 t3 t4)
     refine bodyPost_ret (v := boundE ((0, 0), 14)) (by simp [results, Tryz.results76, go_sem, boundE]) rfl ⟨rfl, HB2.out.alloc HB2.out.size _⟩
   ·obtain rfl := HCL.out (.inl k2)
    have k2' : (z2 != y2) = true := by simp [k2]
    clear k2
    go_enter Tryz.func76, Tryz.ntmps76
    go_wp2_with (go_at_call 40; refine HFI.out.mono ?_; rintro e w2 ⟨rfl, hb2⟩; have d2 := (hb2.cell hlw).trans e2; have d3 := (hb2.cell hlw).trans e3; have hl2 := Nat.lt_of_lt_of_le hlw hb2.size; have HB2 := Hd (HWA.out.trans (hb2.mono HWA.out.size)); clear hb2; obtain ⟨ax, zA, zn, zc, gA, gn, gc, kA, kn, kc, hax, ablk, a0, a1, a2, g1, g2, g3⟩ := HQ.out w2 HB2.out; injection hax with hax; subst hax; obtain ⟨ay, rfl, hyb, t0, t1, t2, t3, t4⟩ := g3 qb (by rw [← g1]; exact HQ2.out); have hqbI : (qb : Int) < (zn : Int) := (by have := HQ2.out; omega); clear g1 g2 g3 a1 a2; rw [HZ.out] at t0 t1 t2 t3 t4)
    refine bodyPost_ret (v := boundE ((0, 0), 14)) (by simp [results, Tryz.results76, go_sem, boundE]) rfl ⟨rfl, HB2.out.alloc HB2.out.size _⟩
 ·have hd' : (y4 != -1) = true := by simp [hd]
  obtain rfl := HOWN.out hd
  go_enter Tryz.func76, Tryz.ntmps76
  go_wp2_with fail
  refine bodyPost_ret (v := boundE ((i, k), 0)) (by simp [results, Tryz.results76, go_sem, boundE]) rfl ⟨rfl, (Below.refl _ _).alloc (Nat.le_refl _) _⟩
end Go.Proofs.YtdaimeaofgbfpaaGreat.Bo
namespace Go.Proofs.YtdaimeaofgbfpaaGreat.Bo
open Go.RowKit Go.Maps Go.WideMaps
open Mem Rf
attribute [local go_sem] Oper.semAt_some
def gP (o : Option Pl) : Pl := o.getD (0, 0)
section
variable {w w' : World} {m k : Nat} {f : ByteArray → Option Pl}
end
end Go.Proofs.YtdaimeaofgbfpaaGreat.Bo
namespace Go.Proofs.YtdaimeaofgbfpaaGreat.Bo
open Go.RowKit
open Mem Rf
theorem mem_upG {L : List (List Sy)} {i j : Nat} (hi : i < L.length) (hj : j < (rowS L i).length) (hg : isG (atS L i j) = true) : ((i, j), atS L i j) ∈ globs L := by
 refine (upG_in (j := j + 1) hi).subset ?_
 rw [upG_more hj, if_pos hg]; simp
def noTwo (L : List (List Sy)) (gs : List Gs) : Prop := ∀ x ∈ gs, findV L x.2.1 = some x.1
theorem find_first {α : Type} {f : α → Bool} {pre l : List α} {x : α} (h : pre ++ [x] <+: l) (h1 : ∀ y ∈ pre, f y = false) (h2 : f x = true) : l.find? f = some x := by
 obtain ⟨t, rfl⟩ := h
 rw [List.find?_append, List.find?_append]
 have : pre.find? f = none := List.find?_eq_none.2 fun y hy => by rw [h1 y hy]; simp
 rw [this]
 simp [h2]
theorem twice_at {L : List (List Sy)} {i j : Nat} (hi : i < L.length) (hj : j < (rowS L i).length) (hg : isG (atS L i j) = true) (h1 : noTwo L (upG L i j)) (h2 : findV L (atS L i j).1 ≠ some (i, j)) : twiceV L = some (i, j) := by
 unfold twiceV
 have hp : upG L i j ++ [((i, j), atS L i j)] <+: globs L := by
  have := upG_in (j := j + 1) hi
  rwa [upG_more hj, if_pos hg] at this
 rw [find_first hp (fun y hy => by simpa using h1 y hy) (by simpa using h2)]; rfl
theorem noTwo_more {L : List (List Sy)} {i j : Nat} (hj : j < (rowS L i).length) (h1 : noTwo L (upG L i j)) (h : isG (atS L i j) = true → findV L (atS L i j).1 = some (i, j)) : noTwo L (upG L i (j + 1)) := by
 intro x hx
 rw [upG_more hj] at hx
 rcases List.mem_append.1 hx with hx | hx
 ·exact h1 x hx
 ·by_cases hg : isG (atS L i j) = true
  ·rw [if_pos hg] at hx
   obtain rfl := List.mem_singleton.1 hx
   exact h hg
  ·rw [if_neg hg] at hx
   simp at hx
theorem twice_all {L : List (List Sy)} (h : noTwo L (globs L)) : twiceV L = none := by
 unfold twiceV
 rw [Option.map_eq_none_iff, List.find?_eq_none]
 intro x hx
 simpa using h x hx
def rejE (o : Option Pl) : Value := match o with | some p => .tuple #[.agg #[.int .i64 12, .int .i64 (p.1 : Int), .int .i64 (p.2 : Int)], .bool true] | none => .tuple #[.agg #[.int .i64 0, .int .i64 0, .int .i64 0], .bool false]
set_option maxRecDepth 100000 in
set_option maxHeartbeats 4000000 in
theorem rtwice_any (A : Option Addr) (n c B : Nat) (L : List (List Sy)) (w : World) (h : Fs w B A n c L) (hB : B ≤ w.heap.size) :
  Calls Tryz.prog 75 #[.slice A n c] w fun e w' => e = .returned (rejE (twiceV L)) ∧ Below w.heap.size w w' := by
 have HF := Hd h
 have HB := Hd hB
 have hn := h.few
 have HLN := Hd h.len
 obtain ⟨W0, hW0⟩ : ∃ W0, w.alloc (.cells #[.int .i64 0, .int .i64 0, .int .i64 0] 32) = W0 := ⟨_, rfl⟩
 have hb0 : Below w.heap.size w W0 := hW0 ▸ (Below.refl _ _).alloc (Nat.le_refl _) _
 have HR := Hd (fun W (hb : Below W0.heap.size W0 W) => h.below hB (hb0.trans (hb.mono hb0.size)))
 have HA := Hd (show upG L n 0 = globs L by rw [← h.len]; exact upG_all L)
 have hbk : Blk W0 w.heap.size 32 #[.int .i64 0, .int .i64 0, .int .i64 0] := hW0 ▸ Blk.new _ _ _
 have hlt0 := hbk.lt
 have HX := Hd (show ∀ W, Below W0.heap.size W0 W → Blk W w.heap.size 32 #[.int .i64 0, .int .i64 0, .int .i64 0] from fun W hb => hbk.below hb hlt0)
 have HB0 := Hd hb0
 have HLT := Hd hlt0
 clear h hB hb0 hbk hlt0
 go_enter Tryz.func75, Tryz.ntmps75
 go_wp2_with fail
 go_loopw [4] (fun i wr => ∃ k : Nat, k ≤ n ∧ i = .int .i64 (k : Int) ∧ noTwo L (upG L k 0) ∧ Below W0.heap.size W0 wr) (fun i _ => n - (intOf i).toNat)
 case atStart => exact ⟨0, Nat.zero_le _, rfl, by rw [upG_zero]; exact fun x hx => absurd hx (by simp), Below.refl _ _⟩
 case round =>
  obtain ⟨k, hk, rfl, hno, hbel⟩ := hrel
  by_cases hlt : k < n
  ·have hkI : (k : Int) < (n : Int) := by omega
   have hk0 : (0 : Int) ≤ (k : Int) := by omega
   obtain ⟨wz, hwz⟩ : ∃ wz, wz = wr := ⟨_, rfl⟩
   subst hwz
   have HNO := Hd hno
   have HBE := Hd hbel
   obtain ⟨on, hon⟩ : ∃ on, (rowS L k).length = on := ⟨_, rfl⟩
   have HON := Hd hon
   have honm : on ≤ 9223372036854775807 := by
    obtain ⟨_, _, _, _, _, _, _, _, _, _, _, _, _, _, _, h1, h2, _⟩ := (HR.out _ hbel).row k hlt
    omega
   clear hno hbel hon
   go_wp2_with fail
   go_loopw [5] (fun i wr => ∃ j : Nat, j ≤ on ∧ i = .int .i64 (j : Int) ∧ noTwo L (upG L k j) ∧ Below W0.heap.size W0 wr) (fun i _ => on - (intOf i).toNat)
   case atStart => exact ⟨0, Nat.zero_le _, rfl, HNO.out, HBE.out⟩
   case round =>
    obtain ⟨j, hj, rfl, hno, hbel⟩ := hrel
    obtain ⟨ad, oA, on', oc, fA, fn, fc, dA, dn, dc, rfl, hblk, c0, c1, c2, h1, h2, h3⟩ := (HR.out wr hbel).row k hlt
    obtain rfl : on' = on := by rw [← h1, HON.out]
    clear h1 h2 c1 c2
    by_cases hjl : j < on'
    ·have hjI : (j : Int) < (on' : Int) := by omega
     have hj0 : (0 : Int) ≤ (j : Int) := by omega
     obtain ⟨ad2, rfl, hb2, s0, s1, s2, s3, s4⟩ := h3 j hjl
     have hkL : k < L.length := by rw [HLN.out]; exact hlt
     have hjL : j < (rowS L k).length := by rw [HON.out]; exact hjl
     have HM := Hd (fun h => noTwo_more (L := L) (i := k) (j := j) hjL hno h)
     have HT := Hd (fun hg h => twice_at (L := L) (i := k) (j := j) hkL hjL hg hno h)
     have HIS := Hd (fun hg => findV_is (mem_upG (L := L) (i := k) (j := j) hkL hjL hg))
     have HBE2 := Hd hbel
     clear h3 hbel hno hkL hjL
     generalize atS L k j = s at *
     obtain ⟨wa, hwa⟩ : ∃ wa, wr.alloc (.cells (encSy s).toArray 79) = wa := ⟨_, rfl⟩
     have HWA := Hd (show Below wr.heap.size wr wa from hwa ▸ (Below.refl _ _).alloc (Nat.le_refl _) _)
     have HFI := Hd (rfind_any (some ad) n c B L s.1 wa ((HR.out wa (HBE2.out.trans (HWA.out.mono HBE2.out.size)))) (Nat.le_trans HB.out (Nat.le_trans HB0.out.size (Nat.le_trans HBE2.out.size HWA.out.size))))
     have HG := Hd (fun w => rglobal_any s w)
     obtain ⟨y0, y1, y2, y3, y4⟩ := s
     unfold syV at HG
     unfold encSy at hwa
     dsimp only at s0 s1 s2 s3 s4 HG hwa HFI HM HT HIS
     have hbk : Blk wa wr.heap.size 79 #[.string y0, .bool y1, .int .i64 y2, .int .i64 y3, .int .i64 y4] := by rw [← hwa]; exact Blk.new _ _ _
     have hsz := hbk.lt
     have HBK := Hd hbk
     have cw : wa.cell? ⟨wr.heap.size, 0, none⟩ = some (.string y0) := hbk.cell 0
     clear hbk
     obtain ⟨r, hr⟩ : ∃ r, findV L y0 = r := ⟨_, rfl⟩
     rw [hr] at HFI HM HT HIS
     have HR2 := Hd hr
     clear hr
     have hk1 : ¬ (k : Int) = -1 := by omega
     obtain ⟨a, b, hab⟩ : ∃ a b : Nat, gP r = (a, b) := ⟨_, _, rfl⟩
     obtain ⟨rs, hrs⟩ : ∃ rs, r.isSome = rs := ⟨_, rfl⟩
     have hfe : findE r = .tuple #[.int .i64 (a : Int), .int .i64 (b : Int), .bool rs] := by unfold findE; rw [show r.getD (0, 0) = (a, b) from hab, hrs]
     rw [hfe] at HFI
     clear hfe
     have HAB := Hd hab
     have HRS := Hd hrs
     clear hab hrs
     cases hg : isG (y0, y1, y2, y3, y4) with
     | false =>
      rw [hg] at HG
      have HV := Hd (HM.out (by rw [hg]; intro h; cases h))
      clear hg
      go_wp2_with (first | (go_at_call 40; refine HFI.out.mono ?_; rintro e w2 ⟨rfl, hb2⟩; have hbk2 := HBK.out.below hb2 HBK.out.lt; have e0 : w2.cell? ⟨wr.heap.size, 0, none⟩ = some (.string y0) := hbk2.cell 0; have e1 : w2.cell? ⟨wr.heap.size, 1, none⟩ = some (.bool y1) := hbk2.cell 1; have e2 : w2.cell? ⟨wr.heap.size, 2, none⟩ = some (.int .i64 y2) := hbk2.cell 2; have e3 : w2.cell? ⟨wr.heap.size, 3, none⟩ = some (.int .i64 y3) := hbk2.cell 3; have e4 : w2.cell? ⟨wr.heap.size, 4, none⟩ = some (.int .i64 y4) := hbk2.cell 4; have HB2 := Hd hb2; clear hb2 hbk2) | (go_at_call 77; refine (HG.out _).mono ?_; rintro e w3 ⟨rfl, hb3⟩; have HB3 := Hd (show Below W0.heap.size W0 w3 from ((HBE2.out.trans (HWA.out.mono HBE2.out.size)).trans (HB2.out.mono (Nat.le_trans HBE2.out.size HWA.out.size))).trans (hb3.mono (Nat.le_trans (Nat.le_trans HBE2.out.size HWA.out.size) HB2.out.size))); have hrb3 := HX.out w3 HB3.out; have r0 : w3.cell? ⟨w.heap.size, 0, none⟩ = some (.int .i64 0) := hrb3.cell 0; have r1 : w3.cell? ⟨w.heap.size, 1, none⟩ = some (.int .i64 0) := hrb3.cell 1; have r2 : w3.cell? ⟨w.heap.size, 2, none⟩ = some (.int .i64 0) := hrb3.cell 2; have f0 := hrb3.frozen 0; have f1 := hrb3.frozen 1; have f2 := hrb3.frozen 2; have HRB3 := Hd hrb3; clear hb3 hrb3))
      go_roundw
      case rel => exact ⟨j + 1, by omega, by go_num, HV.out, HB3.out⟩
      case measure => simp [intOf]; omega
     | true =>
      rw [hg] at HG
      obtain ⟨p, hp⟩ := HIS.out hg
      have hpab : p = (a, b) := by have := HAB.out; rw [hp] at this; exact this
      subst hpab
      by_cases hka : a = k
      ·subst hka
       have na : ((a : Int) != (a : Int)) = false := by simp
       by_cases hkb : b = j
       ·subst hkb
        have nb : ((b : Int) != (b : Int)) = false := by simp
        have HV := Hd (HM.out fun _ => hp)
        clear hg hp
        go_wp2_with (first | (go_at_call 40; refine HFI.out.mono ?_; rintro e w2 ⟨rfl, hb2⟩; have hbk2 := HBK.out.below hb2 HBK.out.lt; have e0 : w2.cell? ⟨wr.heap.size, 0, none⟩ = some (.string y0) := hbk2.cell 0; have e1 : w2.cell? ⟨wr.heap.size, 1, none⟩ = some (.bool y1) := hbk2.cell 1; have e2 : w2.cell? ⟨wr.heap.size, 2, none⟩ = some (.int .i64 y2) := hbk2.cell 2; have e3 : w2.cell? ⟨wr.heap.size, 3, none⟩ = some (.int .i64 y3) := hbk2.cell 3; have e4 : w2.cell? ⟨wr.heap.size, 4, none⟩ = some (.int .i64 y4) := hbk2.cell 4; have HB2 := Hd hb2; clear hb2 hbk2) | (go_at_call 77; refine (HG.out _).mono ?_; rintro e w3 ⟨rfl, hb3⟩; have HB3 := Hd (show Below W0.heap.size W0 w3 from ((HBE2.out.trans (HWA.out.mono HBE2.out.size)).trans (HB2.out.mono (Nat.le_trans HBE2.out.size HWA.out.size))).trans (hb3.mono (Nat.le_trans (Nat.le_trans HBE2.out.size HWA.out.size) HB2.out.size))); have hrb3 := HX.out w3 HB3.out; have r0 : w3.cell? ⟨w.heap.size, 0, none⟩ = some (.int .i64 0) := hrb3.cell 0; have r1 : w3.cell? ⟨w.heap.size, 1, none⟩ = some (.int .i64 0) := hrb3.cell 1; have r2 : w3.cell? ⟨w.heap.size, 2, none⟩ = some (.int .i64 0) := hrb3.cell 2; have f0 := hrb3.frozen 0; have f1 := hrb3.frozen 1; have f2 := hrb3.frozen 2; have HRB3 := Hd hrb3; clear hb3 hrb3))
        go_roundw
        case rel => exact ⟨b + 1, by omega, by go_num, HV.out, HB3.out⟩
        case measure => simp [intOf]; omega
       ·have nb : ((b : Int) != (j : Int)) = true := by simp; omega
        have HV := Hd (HT.out hg (by rw [hp]; intro e; injection e with e; injection e with _ e; exact hkb e))
        clear hg hp hkb
        go_wp2_with (first | (go_at_call 40; refine HFI.out.mono ?_; rintro e w2 ⟨rfl, hb2⟩; have hbk2 := HBK.out.below hb2 HBK.out.lt; have e0 : w2.cell? ⟨wr.heap.size, 0, none⟩ = some (.string y0) := hbk2.cell 0; have e1 : w2.cell? ⟨wr.heap.size, 1, none⟩ = some (.bool y1) := hbk2.cell 1; have e2 : w2.cell? ⟨wr.heap.size, 2, none⟩ = some (.int .i64 y2) := hbk2.cell 2; have e3 : w2.cell? ⟨wr.heap.size, 3, none⟩ = some (.int .i64 y3) := hbk2.cell 3; have e4 : w2.cell? ⟨wr.heap.size, 4, none⟩ = some (.int .i64 y4) := hbk2.cell 4; have HB2 := Hd hb2; clear hb2 hbk2) | (go_at_call 77; refine (HG.out _).mono ?_; rintro e w3 ⟨rfl, hb3⟩; have HB3 := Hd (show Below W0.heap.size W0 w3 from ((HBE2.out.trans (HWA.out.mono HBE2.out.size)).trans (HB2.out.mono (Nat.le_trans HBE2.out.size HWA.out.size))).trans (hb3.mono (Nat.le_trans (Nat.le_trans HBE2.out.size HWA.out.size) HB2.out.size))); have hrb3 := HX.out w3 HB3.out; have r0 : w3.cell? ⟨w.heap.size, 0, none⟩ = some (.int .i64 0) := hrb3.cell 0; have r1 : w3.cell? ⟨w.heap.size, 1, none⟩ = some (.int .i64 0) := hrb3.cell 1; have r2 : w3.cell? ⟨w.heap.size, 2, none⟩ = some (.int .i64 0) := hrb3.cell 2; have f0 := hrb3.frozen 0; have f1 := hrb3.frozen 1; have f2 := hrb3.frozen 2; have HRB3 := Hd hrb3; clear hb3 hrb3))
        have hfin : Blk (((w3.setCell ⟨w.heap.size, 0, none⟩ (.int .i64 12)).setCell ⟨w.heap.size, 1, none⟩ (.int .i64 (a : Int))).setCell ⟨w.heap.size, 2, none⟩ (.int .i64 (j : Int))) w.heap.size 32 #[.int .i64 12, .int .i64 (a : Int), .int .i64 (j : Int)] := ((HRB3.out.stored 0 _).stored 1 _).stored 2 _
        have q0 := hfin.cell 0
        have q1 := hfin.cell 1
        have q2 := hfin.cell 2
        refine bodyPost_ret (v := .tuple #[.agg #[.int .i64 12, .int .i64 (a : Int), .int .i64 (j : Int)], .bool true]) (by simp [results, Tryz.results75, go_sem, q0, q1, q2]) rfl ⟨by rw [HV.out]; rfl, ?_⟩
        exact (((HB0.out.trans (HB3.out.mono HB0.out.size)).setCell (p := ⟨w.heap.size, 0, none⟩) (by simp) _).setCell (p := ⟨w.heap.size, 1, none⟩) (by simp) _).setCell (p := ⟨w.heap.size, 2, none⟩) (by simp) _
      ·have na : ((a : Int) != (k : Int)) = true := by simp; omega
       have HV := Hd (HT.out hg (by rw [hp]; intro e; injection e with e; injection e with e _; exact hka e))
       clear hg hp hka
       go_wp2_with (first | (go_at_call 40; refine HFI.out.mono ?_; rintro e w2 ⟨rfl, hb2⟩; have hbk2 := HBK.out.below hb2 HBK.out.lt; have e0 : w2.cell? ⟨wr.heap.size, 0, none⟩ = some (.string y0) := hbk2.cell 0; have e1 : w2.cell? ⟨wr.heap.size, 1, none⟩ = some (.bool y1) := hbk2.cell 1; have e2 : w2.cell? ⟨wr.heap.size, 2, none⟩ = some (.int .i64 y2) := hbk2.cell 2; have e3 : w2.cell? ⟨wr.heap.size, 3, none⟩ = some (.int .i64 y3) := hbk2.cell 3; have e4 : w2.cell? ⟨wr.heap.size, 4, none⟩ = some (.int .i64 y4) := hbk2.cell 4; have HB2 := Hd hb2; clear hb2 hbk2) | (go_at_call 77; refine (HG.out _).mono ?_; rintro e w3 ⟨rfl, hb3⟩; have HB3 := Hd (show Below W0.heap.size W0 w3 from ((HBE2.out.trans (HWA.out.mono HBE2.out.size)).trans (HB2.out.mono (Nat.le_trans HBE2.out.size HWA.out.size))).trans (hb3.mono (Nat.le_trans (Nat.le_trans HBE2.out.size HWA.out.size) HB2.out.size))); have hrb3 := HX.out w3 HB3.out; have r0 : w3.cell? ⟨w.heap.size, 0, none⟩ = some (.int .i64 0) := hrb3.cell 0; have r1 : w3.cell? ⟨w.heap.size, 1, none⟩ = some (.int .i64 0) := hrb3.cell 1; have r2 : w3.cell? ⟨w.heap.size, 2, none⟩ = some (.int .i64 0) := hrb3.cell 2; have f0 := hrb3.frozen 0; have f1 := hrb3.frozen 1; have f2 := hrb3.frozen 2; have HRB3 := Hd hrb3; clear hb3 hrb3))
       have hfin : Blk (((w3.setCell ⟨w.heap.size, 0, none⟩ (.int .i64 12)).setCell ⟨w.heap.size, 1, none⟩ (.int .i64 (k : Int))).setCell ⟨w.heap.size, 2, none⟩ (.int .i64 (j : Int))) w.heap.size 32 #[.int .i64 12, .int .i64 (k : Int), .int .i64 (j : Int)] := ((HRB3.out.stored 0 _).stored 1 _).stored 2 _
       have q0 := hfin.cell 0
       have q1 := hfin.cell 1
       have q2 := hfin.cell 2
       refine bodyPost_ret (v := .tuple #[.agg #[.int .i64 12, .int .i64 (k : Int), .int .i64 (j : Int)], .bool true]) (by simp [results, Tryz.results75, go_sem, q0, q1, q2]) rfl ⟨by rw [HV.out]; rfl, ?_⟩
       exact (((HB0.out.trans (HB3.out.mono HB0.out.size)).setCell (p := ⟨w.heap.size, 0, none⟩) (by simp) _).setCell (p := ⟨w.heap.size, 1, none⟩) (by simp) _).setCell (p := ⟨w.heap.size, 2, none⟩) (by simp) _
    ·obtain rfl : j = on' := by omega
     have HV := Hd (show noTwo L (upG L (k + 1) 0) by rw [← upG_next, HON.out]; exact hno)
     clear hno
     go_wp2_with fail
     go_roundw
     case rel => exact ⟨k + 1, by omega, by go_num, HV.out, hbel⟩
     case measure => simp [intOf]; omega
  ·obtain rfl : k = n := by omega
   rw [HA.out] at hno
   have HV := Hd (twice_all hno)
   have hbk := HX.out wr hbel
   have cr0 : wr.cell? ⟨w.heap.size, 0, none⟩ = some (.int .i64 0) := hbk.cell 0
   have cr1 : wr.cell? ⟨w.heap.size, 1, none⟩ = some (.int .i64 0) := hbk.cell 1
   have cr2 : wr.cell? ⟨w.heap.size, 2, none⟩ = some (.int .i64 0) := hbk.cell 2
   have f0 := hbk.frozen 0
   have f1 := hbk.frozen 1
   have f2 := hbk.frozen 2
   have HBK := Hd hbk
   clear hno hbk
   go_wp2_with fail
   have hfin : Blk (((wr.setCell ⟨w.heap.size, 0, none⟩ (.int .i64 0)).setCell ⟨w.heap.size, 1, none⟩ (.int .i64 0)).setCell ⟨w.heap.size, 2, none⟩ (.int .i64 0)) w.heap.size 32 #[.int .i64 0, .int .i64 0, .int .i64 0] := ((HBK.out.stored 0 _).stored 1 _).stored 2 _
   have q0 := hfin.cell 0
   have q1 := hfin.cell 1
   have q2 := hfin.cell 2
   refine bodyPost_ret (v := .tuple #[.agg #[.int .i64 0, .int .i64 0, .int .i64 0], .bool false]) (by simp [results, Tryz.results75, go_sem, q0, q1, q2]) rfl ⟨by rw [HV.out]; rfl, ?_⟩
   exact (((HB0.out.trans (hbel.mono HB0.out.size)).setCell (p := ⟨w.heap.size, 0, none⟩) (by simp) _).setCell (p := ⟨w.heap.size, 1, none⟩) (by simp) _).setCell (p := ⟨w.heap.size, 2, none⟩) (by simp) _
end Go.Proofs.YtdaimeaofgbfpaaGreat.Bo
namespace Go.Proofs.YtdaimeaofgbfpaaGreat.Bo
open Go.RowKit Go.Maps
open Mem Rf
attribute [local go_sem] Oper.semAt_some
def chkE (r : Int × Int × Int) : Value := .agg #[.int .i64 r.1, .int .i64 r.2.1, .int .i64 r.2.2]
def okTo (L : List (List Sy)) (gs : List Gs) : Prop := ∀ x ∈ gs, (boundAt L x.1).2 = 0
theorem loose_first {L : List (List Sy)} {pre : List Gs} {x : Gs} (h : pre ++ [x] <+: allS L) (h1 : okTo L pre) (h2 : (boundAt L x.1).2 ≠ 0) : looseV L = some x.1 := by
 unfold looseV
 rw [find_first h (fun y hy => by simpa using h1 y hy) (by simpa using h2)]; rfl
theorem okTo_snoc {L : List (List Sy)} {pre : List Gs} {x : Gs} (h1 : okTo L pre) (h2 : (boundAt L x.1).2 = 0) : okTo L (pre ++ [x]) := fun y hy => by
 rcases List.mem_append.1 hy with hy | hy
 ·exact h1 y hy
 ·obtain rfl := List.mem_singleton.1 hy; exact h2
theorem loose_all {L : List (List Sy)} (h : okTo L (allS L)) : looseV L = none := by
 unfold looseV
 rw [Option.map_eq_none_iff, List.find?_eq_none]
 intro x hx
 simpa using h x hx
theorem check_many {L : List (List Sy)} (h : L.length = 0 ∨ 6 < L.length) : checkV L = (19, -1, -1) := by unfold checkV; rw [if_pos h]
theorem check_twice {L : List (List Sy)} {p : Pl} (h : ¬ (L.length = 0 ∨ 6 < L.length)) (h1 : twiceV L = some p) : checkV L = (12, (p.1 : Int), (p.2 : Int)) := by unfold checkV; rw [if_neg h, h1]
theorem check_loose {L : List (List Sy)} {p : Pl} (h : ¬ (L.length = 0 ∨ 6 < L.length)) (h1 : twiceV L = none) (h2 : looseV L = some p) : checkV L = ((boundAt L p).2, (p.1 : Int), (p.2 : Int)) := by unfold checkV; rw [if_neg h, h1, h2]
theorem check_fine {L : List (List Sy)} (h : ¬ (L.length = 0 ∨ 6 < L.length)) (h1 : twiceV L = none) (h2 : looseV L = none) : checkV L = (0, 0, 0) := by unfold checkV; rw [if_neg h, h1, h2]
theorem rejE_form (L : List (List Sy)) (h : ¬ (L.length = 0 ∨ 6 < L.length)) : ∃ (ta tb tc : Int) (tt : Bool), rejE (twiceV L) = .tuple #[.agg #[.int .i64 ta, .int .i64 tb, .int .i64 tc], .bool tt] ∧ (tt = true → checkV L = (ta, tb, tc)) ∧ (tt = false → twiceV L = none) := by
 cases ht : twiceV L with
 | some p => exact ⟨12, p.1, p.2, true, rfl, fun _ => check_twice h ht, fun h => by cases h⟩
 | none => exact ⟨0, 0, 0, false, rfl, fun h => (by cases h), fun _ => rfl⟩
end Go.Proofs.YtdaimeaofgbfpaaGreat.Bo
namespace Go.Proofs.YtdaimeaofgbfpaaGreat.Bo
open Go.RowKit Go.Maps
open Mem Rf
set_option maxRecDepth 100000 in
set_option maxHeartbeats 4000000 in
theorem rcheck_any (A : Option Addr) (n c B : Nat) (L : List (List Sy)) (w : World) (h : Fs w B A n c L) (hB : B ≤ w.heap.size) :
  Calls Tryz.prog 39 #[.slice A n c] w fun e w' => e = .returned (chkE (checkV L)) ∧ Below w.heap.size w w' := by
 have hn := h.few
 have hL := h.len
 by_cases hmany : n = 0 ∨ 6 < n
 ·have HV := Hd (check_many (L := L) (by rw [hL]; exact hmany))
  have hm1 : decide ((n : Int) = 0) = true ∨ (((n : Int) == 0) = false ∧ (6 : Int) < (n : Int)) := by
   rcases hmany with h | h
   ·exact .inl (by simp [h])
   ·exact .inr ⟨by simp; omega, by omega⟩
  rw [HV.out]
  clear h hmany hL
  go_enter Tryz.func39, Tryz.ntmps39
  rcases hm1 with h | ⟨h, h6⟩
  focus
   have h' : ((n : Int) == 0) = true := by simpa using h
   clear h
  rotate_left
  rotate_left
  all_goals
   go_wp2_with fail
   refine bodyPost_ret (v := .agg #[.int .i64 19, .int .i64 (-1), .int .i64 (-1)]) (by simp [results, Tryz.results39, go_sem]) rfl ⟨rfl, (Below.refl _ _).alloc (Nat.le_refl _) _⟩
 ·have hm0 : ((n : Int) == 0) = false := by simp; omega
  have hm6 : ¬ (6 : Int) < (n : Int) := by omega
  have HMA := Hd (show ¬ (L.length = 0 ∨ 6 < L.length) by rw [hL]; exact hmany)
  obtain ⟨ta, tb, tc, tt, hte, htt, htf⟩ := rejE_form L HMA.out
  obtain ⟨W0, hW0⟩ : ∃ W0, w.alloc (.cells #[.int .i64 0, .int .i64 0, .int .i64 0] 32) = W0 := ⟨_, rfl⟩
  have hb0 : Below w.heap.size w W0 := hW0 ▸ (Below.refl _ _).alloc (Nat.le_refl _) _
  have hrb : Blk W0 w.heap.size 32 #[.int .i64 0, .int .i64 0, .int .i64 0] := hW0 ▸ Blk.new _ _ _
  have hF0 := h.below hB hb0
  have hB0 := Nat.le_trans hB hb0.size
  have hTW := rtwice_any A n c B L W0 hF0 hB0
  rw [hte] at hTW
  have HTW := Hd hTW
  have HTT := Hd htt
  have HTF := Hd htf
  have HRB := Hd hrb
  have HB0 := Hd hb0
  have HF := Hd hF0
  have HBB := Hd hB0
  have HLN := Hd hL
  clear hmany hte hTW htt htf hb0 hrb hF0 hB0 h hB hL
  go_enter Tryz.func39, Tryz.ntmps39
  go_wp2_with (go_at_call 75; refine HTW.out.mono ?_; rintro e w3 ⟨rfl, hb3⟩; obtain ⟨W4, hW4⟩ : ∃ W4, w3.alloc (.cells #[.int .i64 ta, .int .i64 tb, .int .i64 tc] 32) = W4 := ⟨_, rfl⟩; have h04 : Below W0.heap.size W0 W4 := hW4 ▸ hb3.alloc hb3.size _; have htb : Blk W4 w3.heap.size 32 #[.int .i64 ta, .int .i64 tb, .int .i64 tc] := hW4 ▸ Blk.new _ _ _; have hr4 := HRB.out.below h04 HRB.out.lt; have a0 : W4.cell? ⟨w3.heap.size, 0, none⟩ = some (.int .i64 ta) := htb.cell 0; have a1 : W4.cell? ⟨w3.heap.size, 1, none⟩ = some (.int .i64 tb) := htb.cell 1; have a2 : W4.cell? ⟨w3.heap.size, 2, none⟩ = some (.int .i64 tc) := htb.cell 2; have q0 : W4.cell? ⟨w.heap.size, 0, none⟩ = some (.int .i64 0) := hr4.cell 0; have q1 : W4.cell? ⟨w.heap.size, 1, none⟩ = some (.int .i64 0) := hr4.cell 1; have q2 : W4.cell? ⟨w.heap.size, 2, none⟩ = some (.int .i64 0) := hr4.cell 2; have f0 := hr4.frozen 0; have f1 := hr4.frozen 1; have f2 := hr4.frozen 2; have H04 := Hd h04; have HR4 := Hd hr4; clear hb3 h04 htb hr4; cases tt)
  rotate_left
  ·have hf3 : Blk (((W4.setCell ⟨w.heap.size, 0, none⟩ (.int .i64 ta)).setCell ⟨w.heap.size, 1, none⟩ (.int .i64 tb)).setCell ⟨w.heap.size, 2, none⟩ (.int .i64 tc)) w.heap.size 32 #[.int .i64 ta, .int .i64 tb, .int .i64 tc] := ((HR4.out.stored 0 _).stored 1 _).stored 2 _
   have c0 := hf3.cell 0
   have c1 := hf3.cell 1
   have c2 := hf3.cell 2
   refine bodyPost_ret (v := .agg #[.int .i64 ta, .int .i64 tb, .int .i64 tc]) (by simp [results, Tryz.results39, go_sem, c0, c1, c2]) rfl ⟨by rw [HTT.out (by trivial)]; rfl, ?_⟩
   exact (((HB0.out.trans (H04.out.mono HB0.out.size)).setCell (p := ⟨w.heap.size, 0, none⟩) (by simp) _).setCell (p := ⟨w.heap.size, 1, none⟩) (by simp) _).setCell (p := ⟨w.heap.size, 2, none⟩) (by simp) _
  have HTN := Hd (HTF.out (by trivial))
  have HR := Hd (fun W (hb : Below W4.heap.size W4 W) => HF.out.below HBB.out (H04.out.trans (hb.mono H04.out.size)))
  have HBW := Hd (Nat.le_trans HBB.out H04.out.size)
  have HX := Hd (fun W (hb : Below W4.heap.size W4 W) => HR4.out.below hb HR4.out.lt)
  have HA := Hd (show upTo L n 0 = allS L by rw [← HLN.out]; exact upTo_all L)
  have H4 := Hd (HB0.out.trans (H04.out.mono HB0.out.size))
  clear a0 a1 a2 q0 q1 q2 f0 f1 f2
  go_wp2_with fail
  go_loopw [5] (fun i wr => ∃ k : Nat, k ≤ n ∧ i = .int .i64 (k : Int) ∧ okTo L (upTo L k 0) ∧ Below W4.heap.size W4 wr) (fun i _ => n - (intOf i).toNat)
  case atStart => exact ⟨0, Nat.zero_le _, rfl, (show okTo L (upTo L 0 0) from by rw [show upTo L 0 0 = [] by simp [upTo]]; exact fun x hx => absurd hx (by simp)), Below.refl _ _⟩
  case round =>
   obtain ⟨k, hk, rfl, hno, hbel⟩ := hrel
   by_cases hlt : k < n
   ·have hkI : (k : Int) < (n : Int) := by omega
    have hk0 : (0 : Int) ≤ (k : Int) := by omega
    obtain ⟨wz, hwz⟩ : ∃ wz, wz = wr := ⟨_, rfl⟩
    subst hwz
    have HNO := Hd hno
    have HBE := Hd hbel
    obtain ⟨on, hon⟩ : ∃ on, (rowS L k).length = on := ⟨_, rfl⟩
    have HON := Hd hon
    have honm : on ≤ 9223372036854775807 := by
     obtain ⟨_, _, _, _, _, _, _, _, _, _, _, _, _, _, _, h1, h2, _⟩ := (HR.out _ hbel).row k hlt
     omega
    clear hno hbel hon
    go_wp2_with fail
    go_loopw [6] (fun i wr => ∃ j : Nat, j ≤ on ∧ i = .int .i64 (j : Int) ∧ okTo L (upTo L k j) ∧ Below W4.heap.size W4 wr) (fun i _ => on - (intOf i).toNat)
    case atStart => exact ⟨0, Nat.zero_le _, rfl, HNO.out, HBE.out⟩
    case round =>
     obtain ⟨j, hj, rfl, hno, hbel⟩ := hrel
     obtain ⟨ad, oA, on', oc, fA, fn, fc, dA, dn, dc, rfl, hblk, c0, c1, c2, h1, h2, h3⟩ := (HR.out wr hbel).row k hlt
     obtain rfl : on' = on := by rw [← h1, HON.out]
     clear h1 h2 h3 c1 c2
     by_cases hjl : j < on'
     ·have hjI : (j : Int) < (on' : Int) := by omega
      have hj0 : (0 : Int) ≤ (j : Int) := by omega
      have hkL : k < L.length := by rw [HLN.out]; exact hlt
      have hjL : j < (rowS L k).length := by rw [HON.out]; exact hjl
      have hmo := upTo_more L k j hjL
      have HOK := Hd (show (boundAt L (k, j)).2 = 0 → okTo L (upTo L k (j + 1)) from fun e => by rw [hmo]; exact okTo_snoc hno e)
      have HLO := Hd (show (boundAt L (k, j)).2 ≠ 0 → looseV L = some (k, j) from fun e => loose_first (x := ((k, j), atS L k j)) (by rw [← hmo]; exact upTo_in L hkL) hno e)
      have hc := rbound_in (some ad) n c B L wr (HR.out wr hbel) (Nat.le_trans HBW.out hbel.size) k j hlt hjL
      obtain ⟨r, hr⟩ : ∃ r, boundAt L (k, j) = r := ⟨_, rfl⟩
      have HRR := Hd hr
      rw [hr] at hc HOK HLO
      obtain ⟨⟨ra, rb⟩, re⟩ := r
      unfold boundE at hc
      dsimp only at hc HOK HLO
      have HC := Hd hc
      have HBE2 := Hd hbel
      clear hno hbel hkL hjL hmo hc hr
      by_cases e0 : re = 0
      ·have e0' : (re != 0) = false := by simp [e0]
       have HO := Hd (HOK.out e0)
       clear e0
       go_wp2_with (go_at_call 76; refine HC.out.mono ?_; rintro e w6 ⟨rfl, hb6⟩; have HB6 := Hd (HBE2.out.trans (hb6.mono HBE2.out.size)); clear hb6)
       go_roundw
       case rel => exact ⟨j + 1, by omega, by go_num, HO.out, HB6.out⟩
       case measure => simp [intOf]; omega
      ·have e0' : (re != 0) = true := by simp [e0]
       have HV := Hd (check_loose HMA.out HTN.out (HLO.out e0))
       clear e0
       go_wp2_with (go_at_call 76; refine HC.out.mono ?_; rintro e w6 ⟨rfl, hb6⟩; have h6 := HBE2.out.trans (hb6.mono HBE2.out.size); have hr6 := HX.out w6 h6; have q0 : w6.cell? ⟨w.heap.size, 0, none⟩ = some (.int .i64 0) := hr6.cell 0; have q1 : w6.cell? ⟨w.heap.size, 1, none⟩ = some (.int .i64 0) := hr6.cell 1; have q2 : w6.cell? ⟨w.heap.size, 2, none⟩ = some (.int .i64 0) := hr6.cell 2; have f0 := hr6.frozen 0; have f1 := hr6.frozen 1; have f2 := hr6.frozen 2; have HR6 := Hd hr6; have H6 := Hd h6; clear hb6 h6 hr6)
       have hf3 : Blk (((w6.setCell ⟨w.heap.size, 0, none⟩ (.int .i64 re)).setCell ⟨w.heap.size, 1, none⟩ (.int .i64 (k : Int))).setCell ⟨w.heap.size, 2, none⟩ (.int .i64 (j : Int))) w.heap.size 32 #[.int .i64 re, .int .i64 (k : Int), .int .i64 (j : Int)] := ((HR6.out.stored 0 _).stored 1 _).stored 2 _
       have c0 := hf3.cell 0
       have c1 := hf3.cell 1
       have c2 := hf3.cell 2
       refine bodyPost_ret (v := .agg #[.int .i64 re, .int .i64 (k : Int), .int .i64 (j : Int)]) (by simp [results, Tryz.results39, go_sem, c0, c1, c2]) rfl ⟨by rw [HV.out, HRR.out]; rfl, ?_⟩
       exact (((H4.out.trans (H6.out.mono H4.out.size)).setCell (p := ⟨w.heap.size, 0, none⟩) (by simp) _).setCell (p := ⟨w.heap.size, 1, none⟩) (by simp) _).setCell (p := ⟨w.heap.size, 2, none⟩) (by simp) _
     ·obtain rfl : j = on' := by omega
      have HV := Hd (show okTo L (upTo L (k + 1) 0) by rw [← upTo_next, HON.out]; exact hno)
      clear hno
      go_wp2_with fail
      go_roundw
      case rel => exact ⟨k + 1, by omega, by go_num, HV.out, hbel⟩
      case measure => simp [intOf]; omega
   ·obtain rfl : k = n := by omega
    rw [HA.out] at hno
    have HV := Hd (check_fine HMA.out HTN.out (loose_all hno))
    have hbk := HX.out wr hbel
    have q0 : wr.cell? ⟨w.heap.size, 0, none⟩ = some (.int .i64 0) := hbk.cell 0
    have q1 : wr.cell? ⟨w.heap.size, 1, none⟩ = some (.int .i64 0) := hbk.cell 1
    have q2 : wr.cell? ⟨w.heap.size, 2, none⟩ = some (.int .i64 0) := hbk.cell 2
    have f0 := hbk.frozen 0
    have f1 := hbk.frozen 1
    have f2 := hbk.frozen 2
    have HBK := Hd hbk
    have HBEL := Hd hbel
    clear hno hbk hbel
    go_wp2_with fail
    have hf3 : Blk (((wr.setCell ⟨w.heap.size, 0, none⟩ (.int .i64 0)).setCell ⟨w.heap.size, 1, none⟩ (.int .i64 0)).setCell ⟨w.heap.size, 2, none⟩ (.int .i64 0)) w.heap.size 32 #[.int .i64 0, .int .i64 0, .int .i64 0] := ((HBK.out.stored 0 _).stored 1 _).stored 2 _
    have c0 := hf3.cell 0
    have c1 := hf3.cell 1
    have c2 := hf3.cell 2
    refine bodyPost_ret (v := .agg #[.int .i64 0, .int .i64 0, .int .i64 0]) (by simp [results, Tryz.results39, go_sem, c0, c1, c2]) rfl ⟨by rw [HV.out]; rfl, ?_⟩
    exact (((H4.out.trans (HBEL.out.mono H4.out.size)).setCell (p := ⟨w.heap.size, 0, none⟩) (by simp) _).setCell (p := ⟨w.heap.size, 1, none⟩) (by simp) _).setCell (p := ⟨w.heap.size, 2, none⟩) (by simp) _
theorem flat_at {α : Type} {k : Nat} {enc : α → List Value} (hk : ∀ x, (enc x).length = k) : ∀ (l : List α) (i j : Nat) (x : α) (u : Value), l[i]? = some x → (enc x)[j]? = some u → (l.flatMap enc)[i * k + j]? = some u
 | [], i, j, x, u, h, _ => by simp at h
 | y :: l, 0, j, x, u, h, hu => by
  simp at h
  subst h
  rw [List.flatMap_cons, Nat.zero_mul, Nat.zero_add, List.getElem?_append_left (List.getElem?_eq_some_iff.1 hu).1]
  exact hu
 | y :: l, i + 1, j, x, u, h, hu => by
  rw [List.getElem?_cons_succ] at h
  rw [List.flatMap_cons, List.getElem?_append_right (by rw [hk, Nat.add_mul]; omega), hk, show (i + 1) * k + j - k = i * k + j by rw [Nat.add_mul]; omega]
  exact flat_at hk l i j x u h hu
end Go.Proofs.YtdaimeaofgbfpaaGreat.Bo
namespace Go.Proofs.YtdaimeaofgbfpaaGreat.Bo
open Go.Maps Go.Deep Go.ChangeShapes Go.WideShapes Go.ChangeAt Go.RowKit
open Mem Rf
set_option maxRecDepth 100000
instance : Inhabited Fc := ⟨⟨0, (none, 0, 0), 0, false, 0, 0, (none, 0, 0), (none, 0, 0), (none, 0, 0)⟩⟩
instance : Inhabited Dc := ⟨⟨0, (none, 0, 0), (none, 0, 0)⟩⟩
section
variable {H : Type} {enc : TypeId × Value → H} {W : World} {fuel : Nat} {held : Bool} {x : DataW H × List MemPlace}
end
end Go.Proofs.YtdaimeaofgbfpaaGreat.Bo
namespace Go.Proofs.YtdaimeaofgbfpaaGreat.Bo
open Go.RowKit Go.Maps
open Mem Rf
theorem info_split {P : Program} {t : TypeId} {z : Value} {s b : Nat} (h : (P.info? t).map (fun i => (i.zero, i.size, i.bytes)) = some (some z, s, b)) : ∃ i, P.info? t = some i ∧ i.zero = some z ∧ i.size = s ∧ i.bytes = b := by
 obtain ⟨i, hi, e⟩ := Option.map_eq_some_iff.1 h
 injection e with e1 e2
 injection e2 with e2 e3
 exact ⟨i, hi, e1, e2, e3⟩
theorem own_keep1 {w w' : World} {base n k : Nat} {E : TypeId} {v : Value} {xs : List Value} (h : w.ownsRow base E k v n xs) (hk : ∀ g, base ≤ g → g < w.heap.size → v.ownBlock = some g → w'.heap[g]? = w.heap[g]?) : w'.ownsRow base E k v n xs := by
 obtain ⟨h1, h2⟩ := h
 refine ⟨h1, ?_⟩
 rcases h2 with h2 | ⟨g, cap, cur, hv, hb, hg, r⟩
 ·exact .inl h2
 ·exact .inr ⟨g, cap, cur, hv, hb, (hk g hb (Array.getElem?_eq_some_iff.1 hg).1 (by rw [hv]; rfl)).trans hg, r⟩
theorem flat_len {α : Type} {k : Nat} {enc : α → List Value} (hk : ∀ x, (enc x).length = k) (l : List α) : (l.flatMap enc).length = l.length * k := by
 induction l with
 | nil => simp
 | cons y l ih => rw [List.flatMap_cons, List.length_append, ih, hk, List.length_cons, Nat.add_mul]; omega
theorem wd_own {α : Type} {k : Nat} {enc : α → List Value} {w : World} {base n : Nat} {e : TypeId} {v : Value} {l : List α} (hk : ∀ x, (enc x).length = k) (hl : l.length = n) (h : w.ownsRow base e k v n (l.flatMap enc)) : ∃ A c, v = .slice A n c ∧ Wd k enc w w.heap.size A n c l := by
 have h2 := h.2
 rcases h2 with ⟨rfl, rfl⟩ | ⟨g, cap, cur, rfl, hb, hg, hc, hm, hs, ht⟩
 ·have : l = [] := List.eq_nil_of_length_eq_zero hl
  subst this
  exact ⟨none, 0, rfl, Wd.nil⟩
 ·refine ⟨_, cap, rfl, hl, hc, hm, fun e => by simp at e, fun i x hi => ⟨_, rfl, (Array.getElem?_eq_some_iff.1 hg).1, fun j u hu => ?_⟩⟩
  rw [add_twice]
  exact h.cells (g := g) rfl _ _ (flat_at hk l i j x u hi hu)
theorem flat_of {α : Type} {k : Nat} {enc : α → List Value} (hk0 : 0 < k) (hk : ∀ x, (enc x).length = k) : ∀ (l : List α) (j : Nat) (u : Value), (l.flatMap enc)[j]? = some u → ∃ x, l[j / k]? = some x ∧ (enc x)[j % k]? = some u
 | [], j, u, h => by simp at h
 | a :: l, j, u, h => by
  rw [List.flatMap_cons] at h
  by_cases hj : j < k
  ·rw [List.getElem?_append_left (by rw [hk]; exact hj)] at h
   exact ⟨a, by rw [Nat.div_eq_of_lt hj]; rfl, by rw [Nat.mod_eq_of_lt hj]; exact h⟩
  ·rw [List.getElem?_append_right (by rw [hk]; omega), hk] at h
   obtain ⟨x, h1, h2⟩ := flat_of hk0 hk l (j - k) u h
   have e1 : j / k = (j - k) / k + 1 := by rw [Nat.div_eq_sub_div hk0 (by omega)]
   have e2 : j % k = (j - k) % k := Nat.mod_eq_sub_mod (by omega)
   exact ⟨x, by rw [e1]; simpa using h1, by rw [e2]; exact h2⟩
end Go.Proofs.YtdaimeaofgbfpaaGreat.Bo
