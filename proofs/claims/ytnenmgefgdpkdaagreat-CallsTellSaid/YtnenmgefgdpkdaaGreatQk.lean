/-
 A PROGRAM IN MEMORY, TO BE READ. WALKS of layer 25's document: In, Rising, refs.
-/
import Derived.Test.YtnenmgefgdpkdaaGreatZa
import Derived.Test.YtnenmgefgdpkdaaGreatQh
import Derived.Test.YtnenmgefgdpkdaaGreatPb
namespace Go.Proofs.YtnenmgefgdpkdaaGreat.Bo
open Go.RowKit Go.Maps
open Mem Rf
set_option linter.unusedSimpArgs false
set_option linter.unusedVariables false
/-- A row of the call's own that is answered. -/
def IOwn (w : World) (L : List Int) (e : Ending) (w' : World) : Prop := ∃ v, e = .returned v ∧ w'.ownsRow w.heap.size 3 1 v L.length (L.flatMap encI) ∧ Below w.heap.size w w'
theorem own_il {w : World} {B : Nat} {v : Value} {L : List Int} (h : w.ownsRow B 3 1 v L.length (L.flatMap encI)) : ∃ A c, v = .slice A L.length c ∧ IL w A L.length c L := wd_own encI_len rfl h
theorem IL.some_ {w : World} {A : Option Addr} {n c : Nat} {l : List Int} (h : IL w A n c l) {i : Nat} (hi : i < n) : ∃ ad, A = some ad := by obtain ⟨ad, e, _⟩ := h.at_ hi; exact ⟨ad, e⟩
/-- Numbers from 0 to less than a bound that are in a list. -/
def rise (m : Nat) (l : List Int) : List Int := ((List.range m).filter fun (i : Nat) => l.contains (i : Int)).map fun (i : Nat) => (i : Int)
theorem rise_succ (m : Nat) (l : List Int) : rise (m + 1) l = rise m l ++ (if l.contains (m : Int) = true then [(m : Int)] else []) := by
 unfold rise
 rw [List.range_succ, List.filter_append, List.map_append]
 by_cases h : l.contains (m : Int) = true
 ·rw [if_pos h]; simp only [List.filter_cons, List.filter_nil]; rw [if_pos h]; rfl
 ·rw [if_neg h]; simp only [List.filter_cons, List.filter_nil]; rw [if_neg h]; rfl
theorem rise_len (m : Nat) (l : List Int) : (rise m l).length ≤ m := by
 unfold rise; rw [List.length_map]; exact Nat.le_trans (List.length_filter_le _ _) (by simp)
/-- What is gathered of the first k instructions. -/
def gatL (cs : List By.In5) (rs : List Int) (ok : By.In5 → Bool) (k : Nat) : List Int := ((List.range k).filter fun j => ok (By.inAt cs j)).map fun j => rs.getD j 0
theorem gatL_succ (cs : List By.In5) (rs : List Int) (ok : By.In5 → Bool) (k : Nat) : gatL cs rs ok (k + 1) = gatL cs rs ok k ++ (if ok (By.inAt cs k) = true then [rs.getD k 0] else []) := by
 unfold gatL
 rw [List.range_succ, List.filter_append, List.map_append]
 by_cases h : ok (By.inAt cs k) = true
 ·rw [if_pos h]; simp only [List.filter_cons, List.filter_nil]; rw [if_pos h]; rfl
 ·rw [if_neg h]; simp only [List.filter_cons, List.filter_nil]; rw [if_neg h]; rfl
theorem gatL_len (cs : List By.In5) (rs : List Int) (ok : By.In5 → Bool) (k : Nat) : (gatL cs rs ok k).length ≤ k := by
 unfold gatL; rw [List.length_map]; exact Nat.le_trans (List.length_filter_le _ _) (by simp)
def okN (ns : List Int) (x : By.In5) : Bool := ns.contains (By.ndV x.1)
theorem flatI (l m : List Int) : (l ++ m).flatMap encI = l.flatMap encI ++ m.flatMap encI := List.flatMap_append
set_option maxRecDepth 100000 in
set_option maxHeartbeats 2000000 in
theorem in_any (w : World) (A : Option Addr) (n c : Nat) (l : List Int) (x : Int) (h : IL w A n c l) (hn : n ≤ 1000000) :
  Calls Tryz.prog 108 #[.slice A n c, .int .i64 x] w fun e w' => e = .returned (.bool (l.contains x)) ∧ w = w' := by
 have HL := Lib.hid (fun i (hi : i < n) => h.at_ hi)
 have hl : l.length = n := h.1
 have HC := Lib.hid (show ∀ k, k < n → ((∀ m, m < k → l.getD m 0 ≠ x) ∧ l.getD k 0 = x → l.contains x = true) from fun k hk hh => by
  rw [List.contains_iff_mem, ← hh.2, List.getD_eq_getElem?_getD, List.getElem?_eq_getElem (by omega)]; exact List.getElem_mem _)
 have HN := Lib.hid (show (∀ m, m < n → l.getD m 0 ≠ x) → l.contains x = false from fun hh => by
  cases hc : l.contains x with
  | false => rfl
  | true =>
   obtain ⟨i, hi, e⟩ := List.getElem_of_mem (List.contains_iff_mem.1 hc)
   exact absurd (by rw [List.getD_eq_getElem?_getD, List.getElem?_eq_getElem hi]; exact e) (hh i (by omega)))
 obtain ⟨b, hb⟩ : ∃ b, l.contains x = b := ⟨_, rfl⟩
 rw [hb] at HC HN ⊢
 clear h hl hb
 go_enter Tryz.func108, Tryz.ntmps108
 go_wp2_with fail
 go_loop [5] (fun i9 => ∃ k : Nat, k ≤ n ∧ i9 = .int .i64 (k : Int) ∧ Hid (∀ m, m < k → l.getD m 0 ≠ x)) (fun i9 => n - (intOf i9).toNat)
 case atStart => exact ⟨0, Nat.zero_le _, rfl, Lib.hid (fun m hm => by omega)⟩
 case round =>
  obtain ⟨k, hk, rfl, HNO⟩ := hrel
  by_cases hlt : k < n
  ·have hkI : (k : Int) < (n : Int) := by omega
   have hk0 : (0 : Int) ≤ (k : Int) := by omega
   obtain ⟨ad, rfl, _, z0⟩ := HL.out k hlt
   have HV := Lib.hid (fun e => HC.out k hlt ⟨HNO.out, e⟩)
   have HM := Lib.hid (fun e => upto_more (p := fun m => l.getD m 0 ≠ x) HNO.out e)
   obtain ⟨z, hz⟩ : ∃ z, l.getD k 0 = z := ⟨_, rfl⟩
   rw [hz] at z0 HV HM
   clear hz
   by_cases e : z = x
   ·have e' : (z == x) = true := by simp [e]
    have HR := Lib.hid (HV.out e)
    clear e
    go_wp2_with fail
    go_ret
    exact ⟨by rw [HR.out]; rfl, rfl⟩
   ·have e' : (z == x) = false := by simp [e]
    have HR := Lib.hid (HM.out e)
    clear e
    go_wp2_with fail
    go_roundw
    case rel => exact ⟨k + 1, by omega, by go_num, HR⟩
    case measure => simp [intOf]; omega
  ·obtain rfl : n = k := by omega
   have HR := Lib.hid (HN.out HNO.out)
   go_wp2_with fail
   go_ret
   exact ⟨by rw [HR.out]; rfl, rfl⟩
set_option maxRecDepth 100000 in
set_option maxHeartbeats 2000000 in
theorem rising_any (w : World) (A : Option Addr) (n c : Nat) (l : List Int) (m : Nat) (h : IL w A n c l) (hn : n ≤ 1000000) (hm : m ≤ 1000) :
  Calls Tryz.prog 101 #[.slice A n c, .int .i64 (m : Int)] w (IOwn w (rise m l)) := by
 obtain ⟨iN, hiN, hzN0, hzN1, hzN2⟩ := info_split infoInt
 have HI := Lib.hid (fun W (hb : Below w.heap.size w W) x => in_any W A n c l x (h.on hb) hn)
 have HS := Lib.hid (fun k => rise_succ k l)
 have HL := Lib.hid (fun k => rise_len k l)
 clear h
 unfold IOwn
 go_enter Tryz.func101, Tryz.ntmps101
 go_wp2_with fail
 go_loopw [5, 6] (fun v9 i9 wr => ∃ k : Nat, k ≤ m ∧ i9 = .int .i64 (k : Int) ∧ Hid (wr.ownsRow w.heap.size 3 1 v9 (rise k l).length ((rise k l).flatMap encI)) ∧ Hid (Below w.heap.size w wr)) (fun _ i9 _ => m - (intOf i9).toNat)
 case atStart => exact ⟨0, Nat.zero_le _, rfl, Lib.hid (World.ownsRow_nil _ _ _ _), Lib.hid (Below.refl _ _)⟩
 case round =>
  obtain ⟨k, hk, rfl, HOW, HBE⟩ := hrel
  by_cases hlt : k < m
  ·have hkI : (k : Int) < (m : Int) := by omega
   have hs := HS.out k
   have hl9 := HL.out k
   have HC := Lib.hid (HI.out wr HBE.out (k : Int))
   obtain ⟨b, hb⟩ : ∃ b, l.contains (k : Int) = b := ⟨_, rfl⟩
   rw [hb] at hs HC
   clear hb
   cases b with
   | true =>
    rw [if_pos rfl] at hs
    have HX := Lib.hid hs
    clear hs
    obtain ⟨q, hq⟩ : ∃ q, (rise k l).length = q := ⟨_, rfl⟩
    have HW := Lib.hid (show wr.ownsRow w.heap.size 3 1 u5 q ((rise k l).flatMap encI) from by rw [← hq]; exact HOW.out)
    rw [hq] at hl9
    have HQ := Lib.hid hq
    clear hq
    go_wp2_with (first
     | (go_at_call 108; refine HC.out.mono ?_; rintro e w3 ⟨rfl, rfl⟩)
     | (at_builtin; go_loud (refine wpList_append_own _ rfl _ _ 42 rfl w.heap.size 3 iN (.int .i64 0) 1 8 Tryz.underlying42 hiN hzN0 hzN1 hzN2 rfl (by decide) _ q ((rise k l).flatMap encI) rfl (own_on HW.out (alloc_ _ _)) ⟨wr.heap.size, 0, none⟩ 1 1 [.int .i64 (k : Int)] rfl rfl (one_new wr _ 3) (by simp [Value.oneCell']) (by unfold maxLen; omega) (by omega) (by have := HBE.out.size; simp; omega) ?_; intro v' w' h2 h3 _; have H2 := Lib.hid h2; have H3 := Lib.hid h3; clear h2 h3)))
    go_roundw
    case rel => exact ⟨k + 1, by omega, by go_num, Lib.hid (by rw [HX.out, List.length_append, HQ.out, flatI]; exact H2.out), Lib.hid ((to_ HBE.out (alloc_ _ _)).grown H3.out (to_ HBE.out (alloc_ _ _)).size fun r e => (HW.out.lt r e).1)⟩
    case measure => simp [intOf]; omega
   | false =>
    rw [if_neg (by simp), List.append_nil] at hs
    have HX := Lib.hid hs
    clear hs
    go_wp2_with (go_at_call 108; refine HC.out.mono ?_; rintro e w3 ⟨rfl, rfl⟩)
    go_roundw
    case rel => exact ⟨k + 1, by omega, by go_num, Lib.hid (by rw [HX.out]; exact HOW.out), HBE⟩
    case measure => simp [intOf]; omega
  ·obtain rfl : m = k := by omega
   go_wp2_with fail
   go_ret
   exact ⟨_, rfl, HOW.out, HBE.out⟩
end Go.Proofs.YtnenmgefgdpkdaaGreat.Bo
