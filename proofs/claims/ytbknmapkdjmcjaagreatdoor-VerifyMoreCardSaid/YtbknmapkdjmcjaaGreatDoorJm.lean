/-
  WALKS of layer 16, for Check: lists that are looked through, and places that rise. WALKS of layer 16: Check. WALKS of layer 16: Check.
-/
import Derived.Test.YtbknmapkdjmcjaaGreatDoorJa
import Derived.Test.YtbknmapkdjmcjaaGreatDoorSx
import Derived.Test.YtbknmapkdjmcjaaGreatDoorUj
import Derived.Test.YtbknmapkdjmcjaaGreatDoorId
namespace Go.Proofs.YtbknmapkdjmcjaaGreatDoor.By
open Go.RowKit
open Mem Gm Rf
set_option linter.unusedSimpArgs false
set_option linter.unusedVariables false

def BoAns (w : World) (b : Bool) (e : Ending) (w' : World) : Prop := e = .returned (.bool b) ∧ Below w.heap.size w w'
def IxAns (w : World) (b : Bool) (e : Ending) (w' : World) : Prop := ∃ z : Int, e = .returned (.int .i64 z) ∧ decide (0 ≤ z) = b ∧ Below w.heap.size w w'
theorem same_bo {f : Nat} {args : Array Value} {W : World} {b : Bool} (h : Calls Tryz.prog f args W fun e w' => e = .returned (.bool b) ∧ W = w') : Calls Tryz.prog f args W (BoAns W b) :=
  h.mono fun e w' hh => ⟨hh.1, by have h2 := hh.2; subst h2; exact Below.refl _ _⟩
theorem any_next {α : Type} {l : List α} {p : α → Bool} {k : Nat} {x : α} (h : l[k]? = some x) (h0 : (l.take k).any p = false) (hx : p x = false) : (l.take (k + 1)).any p = false := by
  rw [List.take_add_one, h, List.any_append, h0]
  simp [hx]
theorem any_hit {α : Type} {l : List α} {p : α → Bool} {k : Nat} {x : α} (h : l[k]? = some x) (hx : p x = true) : l.any p = true :=
  List.any_eq_true.2 ⟨x, List.mem_of_getElem? h, hx⟩
theorem el_some {l : List Int} {i : Nat} (h : i < l.length) : l[i]? = some (el l i) := by rw [List.getElem?_eq_getElem h, el_at h]
def nkB (z : Int) : Bool := !(decide (0 ≤ z) && decide (z ≤ 8))
def nnB (z : Int) : Bool := !decide (z = 0)
def frB (z m : Int) : Bool := decide (0 ≤ z) && decide (z ≤ m)
def lnB9 (x : Ln) : Bool := !frB x.2 65535
def rfB9 (x : Rl) : Bool := !frB x.2.1 31
theorem from0_any (z m : Int) (w : World) : Calls Tryz.prog 131 #[.int .i64 z, .int .i64 m] w fun e w' => e = .returned (.bool (frB z m)) ∧ w = w' := by
  unfold frB
  by_cases h1 : 0 ≤ z
  · rw [decide_eq_true h1]
    by_cases h2 : z ≤ m
    · rw [decide_eq_true h2]
      go_enter Tryz.func131, Tryz.ntmps131
      go_wp2
      go_ret
      exact ⟨rfl, rfl⟩
    · rw [decide_eq_false h2]
      go_enter Tryz.func131, Tryz.ntmps131
      go_wp2
      go_ret
      exact ⟨rfl, rfl⟩
  · rw [decide_eq_false h1, Bool.false_and]
    go_enter Tryz.func131, Tryz.ntmps131
    go_wp2
    go_ret
    exact ⟨rfl, rfl⟩
theorem noNumber_any (z : Int) (w : World) : Calls Tryz.prog 130 #[.int .i64 z] w fun e w' => e = .returned (.bool (nnB z)) ∧ w = w' := by
  unfold nnB
  by_cases h : z = 0
  · subst h
    go_enter Tryz.func130, Tryz.ntmps130
    go_wp2
    go_ret
    exact ⟨rfl, rfl⟩
  · rw [decide_eq_false h]
    have h0 : (z == 0) = false := by simp [h]
    go_enter Tryz.func130, Tryz.ntmps130
    go_wp2
    go_ret
    exact ⟨ret_bool (by simp [h]), rfl⟩
theorem noKind_any (z : Int) (w : World) (h : Si.Txs w) : Calls Tryz.prog 129 #[.int .i64 z] w fun e w' => e = .returned (.bool (nkB z)) ∧ w = w' := by
  have HT := Lib.hid (fun z => Si.text_any z w h)
  have hv : Si.textV z = Si.textV z := rfl
  rcases Si.eight z with h | h | rfl | rfl | rfl | rfl | rfl | rfl | rfl | rfl | rfl
  · have e1 : Si.textV z = ⟨#[]⟩ := by unfold Si.textV; rw [if_neg (by omega)]
    have e2 : nkB z = true := by unfold nkB; simp; omega
    rw [e2]
    have HT2 := Lib.hid (HT.out z)
    rw [e1] at HT2
    clear h hv e1 e2
    go_enter Tryz.func129, Tryz.ntmps129
    go_wp2_with (go_at_call 213; refine HT2.out.mono ?_; rintro e w9 ⟨rfl, rfl⟩)
    go_ret
    exact ⟨rfl, rfl⟩
  · have e1 : Si.textV z = ⟨#[]⟩ := by unfold Si.textV; rw [if_neg (by omega)]
    have e2 : nkB z = true := by unfold nkB; simp; omega
    rw [e2]
    have HT2 := Lib.hid (HT.out z)
    rw [e1] at HT2
    clear h hv e1 e2
    go_enter Tryz.func129, Tryz.ntmps129
    go_wp2_with (go_at_call 213; refine HT2.out.mono ?_; rintro e w9 ⟨rfl, rfl⟩)
    go_ret
    exact ⟨rfl, rfl⟩
  · have e1 : (ByteArray.toList (Si.textV 0)).isEmpty = false := by rw [ByteArray.toList_eq]; decide
    have e2 : nkB 0 = false := by decide
    rw [e2]
    have HT2 := Lib.hid (HT.out 0)
    generalize Si.textV 0 = y at HT2 e1
    clear hv e2
    go_enter Tryz.func129, Tryz.ntmps129
    go_wp2_with (go_at_call 213; refine HT2.out.mono ?_; rintro e w9 ⟨rfl, rfl⟩)
    go_ret
    exact ⟨ret_bool (by first | (simp; done) | (simp [e1]; done)), rfl⟩
  · have e1 : (ByteArray.toList (Si.textV 1)).isEmpty = false := by rw [ByteArray.toList_eq]; decide
    have e2 : nkB 1 = false := by decide
    rw [e2]
    have HT2 := Lib.hid (HT.out 1)
    generalize Si.textV 1 = y at HT2 e1
    clear hv e2
    go_enter Tryz.func129, Tryz.ntmps129
    go_wp2_with (go_at_call 213; refine HT2.out.mono ?_; rintro e w9 ⟨rfl, rfl⟩)
    go_ret
    exact ⟨ret_bool (by first | (simp; done) | (simp [e1]; done)), rfl⟩
  · have e1 : (ByteArray.toList (Si.textV 2)).isEmpty = false := by rw [ByteArray.toList_eq]; decide
    have e2 : nkB 2 = false := by decide
    rw [e2]
    have HT2 := Lib.hid (HT.out 2)
    generalize Si.textV 2 = y at HT2 e1
    clear hv e2
    go_enter Tryz.func129, Tryz.ntmps129
    go_wp2_with (go_at_call 213; refine HT2.out.mono ?_; rintro e w9 ⟨rfl, rfl⟩)
    go_ret
    exact ⟨ret_bool (by first | (simp; done) | (simp [e1]; done)), rfl⟩
  · have e1 : (ByteArray.toList (Si.textV 3)).isEmpty = false := by rw [ByteArray.toList_eq]; decide
    have e2 : nkB 3 = false := by decide
    rw [e2]
    have HT2 := Lib.hid (HT.out 3)
    generalize Si.textV 3 = y at HT2 e1
    clear hv e2
    go_enter Tryz.func129, Tryz.ntmps129
    go_wp2_with (go_at_call 213; refine HT2.out.mono ?_; rintro e w9 ⟨rfl, rfl⟩)
    go_ret
    exact ⟨ret_bool (by first | (simp; done) | (simp [e1]; done)), rfl⟩
  · have e1 : (ByteArray.toList (Si.textV 4)).isEmpty = false := by rw [ByteArray.toList_eq]; decide
    have e2 : nkB 4 = false := by decide
    rw [e2]
    have HT2 := Lib.hid (HT.out 4)
    generalize Si.textV 4 = y at HT2 e1
    clear hv e2
    go_enter Tryz.func129, Tryz.ntmps129
    go_wp2_with (go_at_call 213; refine HT2.out.mono ?_; rintro e w9 ⟨rfl, rfl⟩)
    go_ret
    exact ⟨ret_bool (by first | (simp; done) | (simp [e1]; done)), rfl⟩
  · have e1 : (ByteArray.toList (Si.textV 5)).isEmpty = false := by rw [ByteArray.toList_eq]; decide
    have e2 : nkB 5 = false := by decide
    rw [e2]
    have HT2 := Lib.hid (HT.out 5)
    generalize Si.textV 5 = y at HT2 e1
    clear hv e2
    go_enter Tryz.func129, Tryz.ntmps129
    go_wp2_with (go_at_call 213; refine HT2.out.mono ?_; rintro e w9 ⟨rfl, rfl⟩)
    go_ret
    exact ⟨ret_bool (by first | (simp; done) | (simp [e1]; done)), rfl⟩
  · have e1 : (ByteArray.toList (Si.textV 6)).isEmpty = false := by rw [ByteArray.toList_eq]; decide
    have e2 : nkB 6 = false := by decide
    rw [e2]
    have HT2 := Lib.hid (HT.out 6)
    generalize Si.textV 6 = y at HT2 e1
    clear hv e2
    go_enter Tryz.func129, Tryz.ntmps129
    go_wp2_with (go_at_call 213; refine HT2.out.mono ?_; rintro e w9 ⟨rfl, rfl⟩)
    go_ret
    exact ⟨ret_bool (by first | (simp; done) | (simp [e1]; done)), rfl⟩
  · have e1 : (ByteArray.toList (Si.textV 7)).isEmpty = false := by rw [ByteArray.toList_eq]; decide
    have e2 : nkB 7 = false := by decide
    rw [e2]
    have HT2 := Lib.hid (HT.out 7)
    generalize Si.textV 7 = y at HT2 e1
    clear hv e2
    go_enter Tryz.func129, Tryz.ntmps129
    go_wp2_with (go_at_call 213; refine HT2.out.mono ?_; rintro e w9 ⟨rfl, rfl⟩)
    go_ret
    exact ⟨ret_bool (by first | (simp; done) | (simp [e1]; done)), rfl⟩
  · have e1 : (ByteArray.toList (Si.textV 8)).isEmpty = false := by rw [ByteArray.toList_eq]; decide
    have e2 : nkB 8 = false := by decide
    rw [e2]
    have HT2 := Lib.hid (HT.out 8)
    generalize Si.textV 8 = y at HT2 e1
    clear hv e2
    go_enter Tryz.func129, Tryz.ntmps129
    go_wp2_with (go_at_call 213; refine HT2.out.mono ?_; rintro e w9 ⟨rfl, rfl⟩)
    go_ret
    exact ⟨ret_bool (by first | (simp; done) | (simp [e1]; done)), rfl⟩
theorem noLine_any (x : Ln) (w : World) : Calls Tryz.prog 137 #[.agg #[.int .i64 x.1, .int .i64 x.2]] w (BoAns w (lnB9 x)) := by
  have HF := Lib.hid (fun w => from0_any (x.2) 65535 w)
  unfold lnB9
  obtain ⟨b, hb⟩ : ∃ b, frB (x.2) 65535 = b := ⟨_, rfl⟩
  rw [hb] at HF ⊢
  have hB := alloc_ w (.cells #[.int .i64 x.1, .int .i64 x.2] 85)
  have HB := Lib.hid hB
  have hk := Blk.new w 85 #[.int .i64 x.1, .int .i64 x.2]
  have c0 := hk.cell 0
  have c1 := hk.cell 1
  clear hk hb hB
  go_enter Tryz.func137, Tryz.ntmps137
  go_wp2_with (go_at_call 131; refine (HF.out _).mono ?_; rintro e w9 ⟨rfl, rfl⟩)
  go_ret
  exact ⟨rfl, HB.out⟩
theorem noSym_any (x : Rl) (w : World) : Calls Tryz.prog 141 #[.agg #[.int .i64 x.1, .int .i64 x.2.1, .bool x.2.2]] w (BoAns w (rfB9 x)) := by
  have HF := Lib.hid (fun w => from0_any (x.2.1) 31 w)
  unfold rfB9
  obtain ⟨b, hb⟩ : ∃ b, frB (x.2.1) 31 = b := ⟨_, rfl⟩
  rw [hb] at HF ⊢
  have hB := alloc_ w (.cells #[.int .i64 x.1, .int .i64 x.2.1, .bool x.2.2] 82)
  have HB := Lib.hid hB
  have hk := Blk.new w 82 #[.int .i64 x.1, .int .i64 x.2.1, .bool x.2.2]
  have c0 := hk.cell 0
  have c1 := hk.cell 1
  clear hk hb hB
  go_enter Tryz.func141, Tryz.ntmps141
  go_wp2_with (go_at_call 131; refine (HF.out _).mono ?_; rintro e w9 ⟨rfl, rfl⟩)
  go_ret
  exact ⟨rfl, HB.out⟩
theorem atLine_any (x : Ln) (w : World) : Calls Tryz.prog 136 #[.agg #[.int .i64 x.1, .int .i64 x.2]] w fun e w' => e = .returned (.int .i64 x.1) ∧ Below w.heap.size w w' := by
  have HB := Lib.hid (alloc_ w (.cells #[.int .i64 x.1, .int .i64 x.2] 85))
  have c0 := (Blk.new w 85 #[.int .i64 x.1, .int .i64 x.2]).cell 0
  go_enter Tryz.func136, Tryz.ntmps136
  go_wp2
  go_ret
  exact ⟨rfl, HB.out⟩
theorem atRef_any (x : Rl) (w : World) : Calls Tryz.prog 140 #[.agg #[.int .i64 x.1, .int .i64 x.2.1, .bool x.2.2]] w fun e w' => e = .returned (.int .i64 x.1) ∧ Below w.heap.size w w' := by
  have HB := Lib.hid (alloc_ w (.cells #[.int .i64 x.1, .int .i64 x.2.1, .bool x.2.2] 82))
  have c0 := (Blk.new w 82 #[.int .i64 x.1, .int .i64 x.2.1, .bool x.2.2]).cell 0
  go_enter Tryz.func140, Tryz.ntmps140
  go_wp2
  go_ret
  exact ⟨rfl, HB.out⟩

set_option maxRecDepth 100000 in
set_option maxHeartbeats 2000000 in
theorem ixNoKind_any (w : World) (A : Option Addr) (n c : Nat) (l : List Int) (h : ∀ W, Below w.heap.size w W → ∀ i, i < n → ∃ ad, A = some ad ∧ ad.block < w.heap.size ∧ W.cell? (ad.add i) = some (.int .i64 (el l i))) (hT : Si.Txs w) (hl : l.length = n) (hn : n ≤ 1000000) :
    Calls Tryz.prog 212 #[.slice A n c, .func (.func 129) #[] #[]] w (IxAns w (l.any nkB)) := by
  have HR := Lib.hid (h)
  have HF := Lib.hid (fun W (hb : Below w.heap.size w W) z => same_bo (noKind_any z W (hT.below hb)))
  have HS := Lib.hid (show ∀ k, k < n → l[k]? = some (el l k) from fun k hk => el_some (by omega))
  have HA0 := Lib.hid hl
  clear h hT
  go_enter Tryz.func212, Tryz.ntmps212
  go_wp2_with fail
  go_loopw [8] (fun i wr => ∃ k : Nat, k ≤ n ∧ i = .int .i64 (k : Int) ∧ Hid ((l.take k).any nkB = false) ∧ Below w.heap.size w wr) (fun i _ => n - (intOf i).toNat)
  case atStart => exact ⟨0, Nat.zero_le _, rfl, Lib.hid (by simp), Below.refl _ _⟩
  case round =>
    obtain ⟨k, hk, rfl, HO, hbel⟩ := hrel
    have HBE := Lib.hid hbel
    by_cases hlt : k < n
    · have hkI : (k : Int) < (n : Int) := by omega
      obtain ⟨ad, rfl, _, c0⟩ := HR.out wr hbel k hlt
      have HK := Lib.hid (HS.out k hlt)
      have HX := Lib.hid (HF.out wr hbel (el l k))
      generalize el l k = x at HK HX c0
      by_cases hp : nkB x = true
      · rw [hp] at HX
        have HV := Lib.hid (any_hit (p := nkB) HK.out hp)
        clear hp hbel
        go_wp2_with (go_at_call 129; refine HX.out.mono ?_; rintro e w9 ⟨rfl, b9⟩; have HB9 := Lib.hid (to_ HBE.out b9); clear b9)
        go_ret
        exact ⟨_, rfl, by rw [HV.out]; simp, HB9.out⟩
      · have hp2 : nkB x = false := by simpa using hp
        rw [hp2] at HX
        have HO2 := Lib.hid (any_next (p := nkB) HK.out HO.out hp2)
        clear hp hp2 hbel HO
        go_wp2_with (go_at_call 129; refine HX.out.mono ?_; rintro e w9 ⟨rfl, b9⟩; have HB9 := Lib.hid (to_ HBE.out b9); clear b9)
        go_roundw
        case rel => exact ⟨k + 1, by omega, by go_num, HO2, HB9.out⟩
        case measure => simp [intOf]; omega
    · obtain rfl : k = n := by omega
      have HV := Lib.hid (show l.any nkB = false from by have := HO.out; rwa [List.take_of_length_le (by have := HA0.out; omega)] at this)
      clear hbel
      go_wp2_with fail
      go_ret
      exact ⟨_, rfl, by rw [HV.out]; rfl, HBE.out⟩
theorem coNoKind_any (w : World) (A : Option Addr) (n c : Nat) (l : List Int) (h : ∀ W, Below w.heap.size w W → ∀ i, i < n → ∃ ad, A = some ad ∧ ad.block < w.heap.size ∧ W.cell? (ad.add i) = some (.int .i64 (el l i))) (hT : Si.Txs w) (hl : l.length = n) (hn : n ≤ 1000000) :
    Calls Tryz.prog 128 #[.slice A n c, .func (.func 129) #[] #[]] w (BoAns w (l.any nkB)) := by
  have HI := Lib.hid (ixNoKind_any w A n c l h hT hl hn)
  clear h hT hl
  go_enter Tryz.func128, Tryz.ntmps128
  go_wp2_with (go_at_call 212; refine HI.out.mono ?_; rintro e w9 ⟨r, rfl, hr, hb⟩; have HR := Lib.hid hr; have HB := Lib.hid hb; clear hr hb)
  go_ret
  exact ⟨ret_bool (by rw [← HR.out]), HB.out⟩

set_option maxRecDepth 100000 in
set_option maxHeartbeats 2000000 in
theorem ixNoNum_any (w : World) (A : Option Addr) (n c : Nat) (l : List Int) (h : ∀ W, Below w.heap.size w W → ∀ i, i < n → ∃ ad, A = some ad ∧ ad.block < w.heap.size ∧ W.cell? (ad.add i) = some (.int .i64 (el l i))) (hl : l.length = n) (hn : n ≤ 1000000) :
    Calls Tryz.prog 212 #[.slice A n c, .func (.func 130) #[] #[]] w (IxAns w (l.any nnB)) := by
  have HR := Lib.hid (h)
  have HF := Lib.hid (fun W (hb : Below w.heap.size w W) z => same_bo (noNumber_any z W))
  have HS := Lib.hid (show ∀ k, k < n → l[k]? = some (el l k) from fun k hk => el_some (by omega))
  have HA0 := Lib.hid hl
  clear h
  go_enter Tryz.func212, Tryz.ntmps212
  go_wp2_with fail
  go_loopw [8] (fun i wr => ∃ k : Nat, k ≤ n ∧ i = .int .i64 (k : Int) ∧ Hid ((l.take k).any nnB = false) ∧ Below w.heap.size w wr) (fun i _ => n - (intOf i).toNat)
  case atStart => exact ⟨0, Nat.zero_le _, rfl, Lib.hid (by simp), Below.refl _ _⟩
  case round =>
    obtain ⟨k, hk, rfl, HO, hbel⟩ := hrel
    have HBE := Lib.hid hbel
    by_cases hlt : k < n
    · have hkI : (k : Int) < (n : Int) := by omega
      obtain ⟨ad, rfl, _, c0⟩ := HR.out wr hbel k hlt
      have HK := Lib.hid (HS.out k hlt)
      have HX := Lib.hid (HF.out wr hbel (el l k))
      generalize el l k = x at HK HX c0
      by_cases hp : nnB x = true
      · rw [hp] at HX
        have HV := Lib.hid (any_hit (p := nnB) HK.out hp)
        clear hp hbel
        go_wp2_with (go_at_call 130; refine HX.out.mono ?_; rintro e w9 ⟨rfl, b9⟩; have HB9 := Lib.hid (to_ HBE.out b9); clear b9)
        go_ret
        exact ⟨_, rfl, by rw [HV.out]; simp, HB9.out⟩
      · have hp2 : nnB x = false := by simpa using hp
        rw [hp2] at HX
        have HO2 := Lib.hid (any_next (p := nnB) HK.out HO.out hp2)
        clear hp hp2 hbel HO
        go_wp2_with (go_at_call 130; refine HX.out.mono ?_; rintro e w9 ⟨rfl, b9⟩; have HB9 := Lib.hid (to_ HBE.out b9); clear b9)
        go_roundw
        case rel => exact ⟨k + 1, by omega, by go_num, HO2, HB9.out⟩
        case measure => simp [intOf]; omega
    · obtain rfl : k = n := by omega
      have HV := Lib.hid (show l.any nnB = false from by have := HO.out; rwa [List.take_of_length_le (by have := HA0.out; omega)] at this)
      clear hbel
      go_wp2_with fail
      go_ret
      exact ⟨_, rfl, by rw [HV.out]; rfl, HBE.out⟩
theorem coNoNum_any (w : World) (A : Option Addr) (n c : Nat) (l : List Int) (h : ∀ W, Below w.heap.size w W → ∀ i, i < n → ∃ ad, A = some ad ∧ ad.block < w.heap.size ∧ W.cell? (ad.add i) = some (.int .i64 (el l i))) (hl : l.length = n) (hn : n ≤ 1000000) :
    Calls Tryz.prog 128 #[.slice A n c, .func (.func 130) #[] #[]] w (BoAns w (l.any nnB)) := by
  have HI := Lib.hid (ixNoNum_any w A n c l h hl hn)
  clear h hl
  go_enter Tryz.func128, Tryz.ntmps128
  go_wp2_with (go_at_call 212; refine HI.out.mono ?_; rintro e w9 ⟨r, rfl, hr, hb⟩; have HR := Lib.hid hr; have HB := Lib.hid hb; clear hr hb)
  go_ret
  exact ⟨ret_bool (by rw [← HR.out]), HB.out⟩

set_option maxRecDepth 100000 in
set_option maxHeartbeats 2000000 in
theorem ixNoLine_any (w : World) (A : Option Addr) (n c : Nat) (l : List Ln) (h : LnL w A n c l) (hl : l.length = n) (hn : n ≤ 1000000) :
    Calls Tryz.prog 221 #[.slice A n c, .func (.func 137) #[] #[]] w (IxAns w (l.any lnB9)) := by
  have HR := Lib.hid (fun W (hb : Below w.heap.size w W) i (hi : i < n) => (h.on hb).at_ hi)
  have HF := Lib.hid (fun W (hb : Below w.heap.size w W) x => noLine_any x W)
  have HS := Lib.hid (show ∀ k, k < n → l[k]? = some (lnAt l k) from fun k hk => lnAt_some (by omega))
  have HA0 := Lib.hid hl
  clear h
  go_enter Tryz.func221, Tryz.ntmps221
  go_wp2_with fail
  go_loopw [8] (fun i wr => ∃ k : Nat, k ≤ n ∧ i = .int .i64 (k : Int) ∧ Hid ((l.take k).any lnB9 = false) ∧ Below w.heap.size w wr) (fun i _ => n - (intOf i).toNat)
  case atStart => exact ⟨0, Nat.zero_le _, rfl, Lib.hid (by simp), Below.refl _ _⟩
  case round =>
    obtain ⟨k, hk, rfl, HO, hbel⟩ := hrel
    have HBE := Lib.hid hbel
    by_cases hlt : k < n
    · have hkI : (k : Int) < (n : Int) := by omega
      obtain ⟨ad, rfl, _, c0, c1⟩ := HR.out wr hbel k hlt
      have HK := Lib.hid (HS.out k hlt)
      have HX := Lib.hid (HF.out wr hbel (lnAt l k))
      generalize lnAt l k = x at HK HX c0 c1
      by_cases hp : lnB9 x = true
      · rw [hp] at HX
        have HV := Lib.hid (any_hit (p := lnB9) HK.out hp)
        clear hp hbel
        go_wp2_with (go_at_call 137; refine HX.out.mono ?_; rintro e w9 ⟨rfl, b9⟩; have HB9 := Lib.hid (to_ HBE.out b9); clear b9)
        go_ret
        exact ⟨_, rfl, by rw [HV.out]; simp, HB9.out⟩
      · have hp2 : lnB9 x = false := by simpa using hp
        rw [hp2] at HX
        have HO2 := Lib.hid (any_next (p := lnB9) HK.out HO.out hp2)
        clear hp hp2 hbel HO
        go_wp2_with (go_at_call 137; refine HX.out.mono ?_; rintro e w9 ⟨rfl, b9⟩; have HB9 := Lib.hid (to_ HBE.out b9); clear b9)
        go_roundw
        case rel => exact ⟨k + 1, by omega, by go_num, HO2, HB9.out⟩
        case measure => simp [intOf]; omega
    · obtain rfl : k = n := by omega
      have HV := Lib.hid (show l.any lnB9 = false from by have := HO.out; rwa [List.take_of_length_le (by have := HA0.out; omega)] at this)
      clear hbel
      go_wp2_with fail
      go_ret
      exact ⟨_, rfl, by rw [HV.out]; rfl, HBE.out⟩
theorem coNoLine_any (w : World) (A : Option Addr) (n c : Nat) (l : List Ln) (h : LnL w A n c l) (hl : l.length = n) (hn : n ≤ 1000000) :
    Calls Tryz.prog 139 #[.slice A n c, .func (.func 137) #[] #[]] w (BoAns w (l.any lnB9)) := by
  have HI := Lib.hid (ixNoLine_any w A n c l h hl hn)
  clear h hl
  go_enter Tryz.func139, Tryz.ntmps139
  go_wp2_with (go_at_call 221; refine HI.out.mono ?_; rintro e w9 ⟨r, rfl, hr, hb⟩; have HR := Lib.hid hr; have HB := Lib.hid hb; clear hr hb)
  go_ret
  exact ⟨ret_bool (by rw [← HR.out]), HB.out⟩

set_option maxRecDepth 100000 in
set_option maxHeartbeats 2000000 in
theorem ixNoSym_any (w : World) (A : Option Addr) (n c : Nat) (l : List Rl) (h : RlL w A n c l) (hl : l.length = n) (hn : n ≤ 1000000) :
    Calls Tryz.prog 222 #[.slice A n c, .func (.func 141) #[] #[]] w (IxAns w (l.any rfB9)) := by
  have HR := Lib.hid (fun W (hb : Below w.heap.size w W) i (hi : i < n) => (h.on hb).at_ hi)
  have HF := Lib.hid (fun W (hb : Below w.heap.size w W) x => noSym_any x W)
  have HS := Lib.hid (show ∀ k, k < n → l[k]? = some (rlAt l k) from fun k hk => rlAt_some (by omega))
  have HA0 := Lib.hid hl
  clear h
  go_enter Tryz.func222, Tryz.ntmps222
  go_wp2_with fail
  go_loopw [8] (fun i wr => ∃ k : Nat, k ≤ n ∧ i = .int .i64 (k : Int) ∧ Hid ((l.take k).any rfB9 = false) ∧ Below w.heap.size w wr) (fun i _ => n - (intOf i).toNat)
  case atStart => exact ⟨0, Nat.zero_le _, rfl, Lib.hid (by simp), Below.refl _ _⟩
  case round =>
    obtain ⟨k, hk, rfl, HO, hbel⟩ := hrel
    have HBE := Lib.hid hbel
    by_cases hlt : k < n
    · have hkI : (k : Int) < (n : Int) := by omega
      obtain ⟨ad, rfl, _, c0, c1, c2⟩ := HR.out wr hbel k hlt
      have HK := Lib.hid (HS.out k hlt)
      have HX := Lib.hid (HF.out wr hbel (rlAt l k))
      generalize rlAt l k = x at HK HX c0 c1 c2
      by_cases hp : rfB9 x = true
      · rw [hp] at HX
        have HV := Lib.hid (any_hit (p := rfB9) HK.out hp)
        clear hp hbel
        go_wp2_with (go_at_call 141; refine HX.out.mono ?_; rintro e w9 ⟨rfl, b9⟩; have HB9 := Lib.hid (to_ HBE.out b9); clear b9)
        go_ret
        exact ⟨_, rfl, by rw [HV.out]; simp, HB9.out⟩
      · have hp2 : rfB9 x = false := by simpa using hp
        rw [hp2] at HX
        have HO2 := Lib.hid (any_next (p := rfB9) HK.out HO.out hp2)
        clear hp hp2 hbel HO
        go_wp2_with (go_at_call 141; refine HX.out.mono ?_; rintro e w9 ⟨rfl, b9⟩; have HB9 := Lib.hid (to_ HBE.out b9); clear b9)
        go_roundw
        case rel => exact ⟨k + 1, by omega, by go_num, HO2, HB9.out⟩
        case measure => simp [intOf]; omega
    · obtain rfl : k = n := by omega
      have HV := Lib.hid (show l.any rfB9 = false from by have := HO.out; rwa [List.take_of_length_le (by have := HA0.out; omega)] at this)
      clear hbel
      go_wp2_with fail
      go_ret
      exact ⟨_, rfl, by rw [HV.out]; rfl, HBE.out⟩
theorem coNoSym_any (w : World) (A : Option Addr) (n c : Nat) (l : List Rl) (h : RlL w A n c l) (hl : l.length = n) (hn : n ≤ 1000000) :
    Calls Tryz.prog 143 #[.slice A n c, .func (.func 141) #[] #[]] w (BoAns w (l.any rfB9)) := by
  have HI := Lib.hid (ixNoSym_any w A n c l h hl hn)
  clear h hl
  go_enter Tryz.func143, Tryz.ntmps143
  go_wp2_with (go_at_call 222; refine HI.out.mono ?_; rintro e w9 ⟨r, rfl, hr, hb⟩; have HR := Lib.hid hr; have HB := Lib.hid hb; clear hr hb)
  go_ret
  exact ⟨ret_bool (by rw [← HR.out]), HB.out⟩

/-- Places that rise, behind z, below m. -/
def risB (m : Int) : Int → List Int → Bool
  | _, [] => true
  | z, a :: r => (decide (z < a) && decide (a < m)) && risB m a r
theorem ris_at {α : Type} {f : α → Int} {l : List α} {k : Nat} {x : α} (m z : Int) (h : l[k]? = some x) : risB m z ((l.drop k).map f) = ((decide (z < f x) && decide (f x < m)) && risB m (f x) ((l.drop (k + 1)).map f)) := by
  have hk := (List.getElem?_eq_some_iff.1 h).1
  have hx := (List.getElem?_eq_some_iff.1 h).2
  rw [List.drop_eq_getElem_cons hk, List.map_cons, hx]
  rfl

set_option maxRecDepth 100000 in
set_option maxHeartbeats 4000000 in
theorem riseL_any (w : World) (A : Option Addr) (n c : Nat) (l : List Ln) (m : Int) (h : LnL w A n c l) (hn : n ≤ 1000000) :
    Calls Tryz.prog 138 #[.slice A n c, .func (.func 136) #[] #[], .int .i64 m] w (BoAns w (risB m (-1) (l.map fun x => x.1))) := by
  have hl : l.length = n := h.1
  have HR := Lib.hid (fun W (hb : Below w.heap.size w W) i (hi : i < n) => (h.on hb).at_ hi)
  have HA := Lib.hid (fun W x => atLine_any x W)
  have HS := Lib.hid (show ∀ k, k < n → l[k]? = some (lnAt l k) from fun k hk => lnAt_some (by omega))
  have HL := Lib.hid hl
  clear h hl
  go_enter Tryz.func138, Tryz.ntmps138
  go_wp2_with fail
  go_loopw [7, 12] (fun a i wr => ∃ (k : Nat) (z : Int), k ≤ n ∧ i = .int .i64 (k : Int) ∧ a = .int .i64 z ∧ Hid (risB m (-1) (l.map fun x => x.1) = risB m z ((l.drop k).map fun x => x.1)) ∧ Below w.heap.size w wr) (fun _ i _ => n - (intOf i).toNat)
  case atStart => exact ⟨0, -1, Nat.zero_le _, rfl, rfl, Lib.hid (by rw [List.drop_zero]), Below.refl _ _⟩
  case round =>
    obtain ⟨k, z, hk, rfl, rfl, HO, hbel⟩ := hrel
    have HBE := Lib.hid hbel
    by_cases hlt : k < n
    · have hkI : (k : Int) < (n : Int) := by omega
      obtain ⟨ad, rfl, _, c0, c1⟩ := HR.out wr hbel k hlt
      have HK := Lib.hid (HO.out.trans (ris_at (f := fun x : Ln => x.1) m z (HS.out k hlt)))
      have HAX := Lib.hid (fun W => HA.out W (lnAt l k))
      generalize lnAt l k = x at HK HAX c0 c1
      obtain ⟨Wx, hWx⟩ : ∃ Wx, wr.alloc (.cells #[.int .i64 x.1, .int .i64 x.2] 85) = Wx := ⟨_, rfl⟩
      have HBX := Lib.hid (show Below wr.heap.size wr Wx from by rw [← hWx]; exact alloc_ _ _)
      have hbk : Blk Wx wr.heap.size 85 #[.int .i64 x.1, .int .i64 x.2] := by rw [← hWx]; exact Blk.new wr _ _
      have HBK := Lib.hid (show ∀ W, Below Wx.heap.size Wx W → Blk W wr.heap.size 85 #[.int .i64 x.1, .int .i64 x.2] from fun W hb => (hb.block _ hbk.lt).trans hbk)
      obtain ⟨d0, d1⟩ := blk2 hbk
      clear hbel hbk
      by_cases h1 : x.1 ≤ z
      · have e1 : decide (z < x.1) = false := by simp; omega
        rw [e1, Bool.false_and, Bool.false_and] at HK
        clear e1
        go_wp2_with (go_at_call 136; refine (HAX.out _).mono ?_; rintro e w9 ⟨rfl, b9⟩; have HB9 := Lib.hid (to_ (to_ HBE.out HBX.out) b9); clear b9)
        go_ret
        exact ⟨ret_bool (by rw [HK.out]), HB9.out⟩
      · have e1 : decide (z < x.1) = true := by simp; omega
        rw [e1, Bool.true_and] at HK
        clear e1
        by_cases h2 : m ≤ x.1
        · have e2 : decide (x.1 < m) = false := by simp; omega
          have h3 : x.1 ≥ m := h2
          rw [e2, Bool.false_and] at HK
          clear e2
          go_wp2_with fail
          refine (HAX.out _).mono ?_
          rintro e w8 ⟨rfl, b8⟩
          have HB8 := Lib.hid b8
          clear hWx d0 d1
          obtain ⟨d0, d1⟩ := blk2 (HBK.out w8 b8)
          clear b8
          go_wp2_with (go_at_call 136; refine (HAX.out _).mono ?_; rintro e w9 ⟨rfl, b9⟩; have HB9 := Lib.hid (to_ (to_ (to_ HBE.out HBX.out) HB8.out) b9); clear b9)
          go_ret
          exact ⟨ret_bool (by rw [HK.out]), HB9.out⟩
        · have e2 : decide (x.1 < m) = true := by simp; omega
          have h3 : ¬ x.1 ≥ m := h2
          rw [e2, Bool.true_and] at HK
          clear e2
          go_wp2_with fail
          refine (HAX.out _).mono ?_
          rintro e w8 ⟨rfl, b8⟩
          have HB8 := Lib.hid b8
          clear hWx d0 d1
          obtain ⟨d0, d1⟩ := blk2 (HBK.out w8 b8)
          clear b8
          go_wp2_with fail
          refine (HAX.out _).mono ?_
          rintro e w7 ⟨rfl, b7⟩
          have HB7 := Lib.hid (to_ HB8.out b7)
          clear d0 d1 b7
          obtain ⟨d0, d1⟩ := blk2 (HBK.out w7 HB7.out)
          go_wp2_with fail
          refine (HAX.out _).mono ?_
          rintro e w6 ⟨rfl, b6⟩
          have HB6 := Lib.hid (to_ (to_ (to_ HBE.out HBX.out) HB7.out) b6)
          clear b6 d0 d1
          go_wp2_with fail
          go_roundw
          case rel => exact ⟨k + 1, x.1, by omega, by go_num, rfl, HK, HB6.out⟩
          case measure => simp [intOf]; omega
    · obtain rfl : k = n := by omega
      have HV := Lib.hid (show risB m (-1) (l.map fun x => x.1) = true from by rw [HO.out, List.drop_eq_nil_of_le (by have := HL.out; omega)]; rfl)
      clear hbel
      go_wp2_with fail
      go_ret
      exact ⟨ret_bool (by rw [HV.out]), HBE.out⟩

set_option maxRecDepth 100000 in
set_option maxHeartbeats 4000000 in
theorem riseR_any (w : World) (A : Option Addr) (n c : Nat) (l : List Rl) (m : Int) (h : RlL w A n c l) (hn : n ≤ 1000000) :
    Calls Tryz.prog 142 #[.slice A n c, .func (.func 140) #[] #[], .int .i64 m] w (BoAns w (risB m (-1) (l.map fun x => x.1))) := by
  have hl : l.length = n := h.1
  have HR := Lib.hid (fun W (hb : Below w.heap.size w W) i (hi : i < n) => (h.on hb).at_ hi)
  have HA := Lib.hid (fun W x => atRef_any x W)
  have HS := Lib.hid (show ∀ k, k < n → l[k]? = some (rlAt l k) from fun k hk => rlAt_some (by omega))
  have HL := Lib.hid hl
  clear h hl
  go_enter Tryz.func142, Tryz.ntmps142
  go_wp2_with fail
  go_loopw [7, 12] (fun a i wr => ∃ (k : Nat) (z : Int), k ≤ n ∧ i = .int .i64 (k : Int) ∧ a = .int .i64 z ∧ Hid (risB m (-1) (l.map fun x => x.1) = risB m z ((l.drop k).map fun x => x.1)) ∧ Below w.heap.size w wr) (fun _ i _ => n - (intOf i).toNat)
  case atStart => exact ⟨0, -1, Nat.zero_le _, rfl, rfl, Lib.hid (by rw [List.drop_zero]), Below.refl _ _⟩
  case round =>
    obtain ⟨k, z, hk, rfl, rfl, HO, hbel⟩ := hrel
    have HBE := Lib.hid hbel
    by_cases hlt : k < n
    · have hkI : (k : Int) < (n : Int) := by omega
      obtain ⟨ad, rfl, _, c0, c1, c2⟩ := HR.out wr hbel k hlt
      have HK := Lib.hid (HO.out.trans (ris_at (f := fun x : Rl => x.1) m z (HS.out k hlt)))
      have HAX := Lib.hid (fun W => HA.out W (rlAt l k))
      generalize rlAt l k = x at HK HAX c0 c1 c2
      obtain ⟨Wx, hWx⟩ : ∃ Wx, wr.alloc (.cells #[.int .i64 x.1, .int .i64 x.2.1, .bool x.2.2] 82) = Wx := ⟨_, rfl⟩
      have HBX := Lib.hid (show Below wr.heap.size wr Wx from by rw [← hWx]; exact alloc_ _ _)
      have hbk : Blk Wx wr.heap.size 82 #[.int .i64 x.1, .int .i64 x.2.1, .bool x.2.2] := by rw [← hWx]; exact Blk.new wr _ _
      have HBK := Lib.hid (show ∀ W, Below Wx.heap.size Wx W → Blk W wr.heap.size 82 #[.int .i64 x.1, .int .i64 x.2.1, .bool x.2.2] from fun W hb => (hb.block _ hbk.lt).trans hbk)
      obtain ⟨d0, d1, d2⟩ := blk3 hbk
      clear hbel hbk
      by_cases h1 : x.1 ≤ z
      · have e1 : decide (z < x.1) = false := by simp; omega
        rw [e1, Bool.false_and, Bool.false_and] at HK
        clear e1
        go_wp2_with (go_at_call 140; refine (HAX.out _).mono ?_; rintro e w9 ⟨rfl, b9⟩; have HB9 := Lib.hid (to_ (to_ HBE.out HBX.out) b9); clear b9)
        go_ret
        exact ⟨ret_bool (by rw [HK.out]), HB9.out⟩
      · have e1 : decide (z < x.1) = true := by simp; omega
        rw [e1, Bool.true_and] at HK
        clear e1
        by_cases h2 : m ≤ x.1
        · have e2 : decide (x.1 < m) = false := by simp; omega
          have h3 : x.1 ≥ m := h2
          rw [e2, Bool.false_and] at HK
          clear e2
          go_wp2_with fail
          refine (HAX.out _).mono ?_
          rintro e w8 ⟨rfl, b8⟩
          have HB8 := Lib.hid b8
          clear hWx d0 d1 d2
          obtain ⟨d0, d1, d2⟩ := blk3 (HBK.out w8 b8)
          clear b8
          go_wp2_with (go_at_call 140; refine (HAX.out _).mono ?_; rintro e w9 ⟨rfl, b9⟩; have HB9 := Lib.hid (to_ (to_ (to_ HBE.out HBX.out) HB8.out) b9); clear b9)
          go_ret
          exact ⟨ret_bool (by rw [HK.out]), HB9.out⟩
        · have e2 : decide (x.1 < m) = true := by simp; omega
          have h3 : ¬ x.1 ≥ m := h2
          rw [e2, Bool.true_and] at HK
          clear e2
          go_wp2_with fail
          refine (HAX.out _).mono ?_
          rintro e w8 ⟨rfl, b8⟩
          have HB8 := Lib.hid b8
          clear hWx d0 d1 d2
          obtain ⟨d0, d1, d2⟩ := blk3 (HBK.out w8 b8)
          clear b8
          go_wp2_with fail
          refine (HAX.out _).mono ?_
          rintro e w7 ⟨rfl, b7⟩
          have HB7 := Lib.hid (to_ HB8.out b7)
          clear d0 d1 d2 b7
          obtain ⟨d0, d1, d2⟩ := blk3 (HBK.out w7 HB7.out)
          go_wp2_with fail
          refine (HAX.out _).mono ?_
          rintro e w6 ⟨rfl, b6⟩
          have HB6 := Lib.hid (to_ (to_ (to_ HBE.out HBX.out) HB7.out) b6)
          clear b6 d0 d1 d2
          go_wp2_with fail
          go_roundw
          case rel => exact ⟨k + 1, x.1, by omega, by go_num, rfl, HK, HB6.out⟩
          case measure => simp [intOf]; omega
    · obtain rfl : k = n := by omega
      have HV := Lib.hid (show risB m (-1) (l.map fun x => x.1) = true from by rw [HO.out, List.drop_eq_nil_of_le (by have := HL.out; omega)]; rfl)
      clear hbel
      go_wp2_with fail
      go_ret
      exact ⟨ret_bool (by rw [HV.out]), HBE.out⟩
end Go.Proofs.YtbknmapkdjmcjaaGreatDoor.By

namespace Go.Proofs.YtbknmapkdjmcjaaGreatDoor.By
open Go.RowKit
open Mem Gm Rf
set_option linter.unusedSimpArgs false
set_option linter.unusedVariables false

def nearV (n lo hi : Int) : Int := if n < lo then lo else if hi < n then hi else n
theorem near_any (n lo hi : Int) (w : World) : Calls Tryz.prog 66 #[.int .i64 n, .int .i64 lo, .int .i64 hi] w fun e w' => e = .returned (.int .i64 (nearV n lo hi)) ∧ w = w' := by
  unfold nearV
  by_cases h1 : n < lo
  · rw [if_pos h1]
    go_enter Tryz.func66, Tryz.ntmps66
    go_wp2
    go_ret
    exact ⟨rfl, rfl⟩
  · rw [if_neg h1]
    by_cases h2 : hi < n
    · rw [if_pos h2]
      go_enter Tryz.func66, Tryz.ntmps66
      go_wp2
      go_ret
      exact ⟨rfl, rfl⟩
    · rw [if_neg h2]
      go_enter Tryz.func66, Tryz.ntmps66
      go_wp2
      go_ret
      exact ⟨rfl, rfl⟩
theorem rnear_any (n lo hi : Int) (w : World) : Calls Tryz.prog 67 #[.int .i64 n, .int .i64 lo, .int .i64 hi] w fun e w' => e = .returned (.int .i64 (nearV n lo hi)) ∧ w = w' := by
  unfold nearV
  by_cases h1 : n < lo
  · rw [if_pos h1]
    go_enter Tryz.func67, Tryz.ntmps67
    go_wp2
    go_ret
    exact ⟨rfl, rfl⟩
  · rw [if_neg h1]
    by_cases h2 : hi < n
    · rw [if_pos h2]
      go_enter Tryz.func67, Tryz.ntmps67
      go_wp2
      go_ret
      exact ⟨rfl, rfl⟩
    · rw [if_neg h2]
      go_enter Tryz.func67, Tryz.ntmps67
      go_wp2
      go_ret
      exact ⟨rfl, rfl⟩
/-- All tables of texts. -/
def TX3 (w : World) : Prop := Txs w ∧ Si.Txs w
theorem TX3.on {w w' : World} (h : TX3 w) (hb : Below w.heap.size w w') : TX3 w' := ⟨h.1.below hb, h.2.below hb⟩
def frV (x : Fn) : Int := if Si.isC x.k = false then 14 else if 16 < x.ks.length then 6 else if (x.ks.length : Int) < Si.parV x.k then 2 else if (x.ks.any nkB || (x.ks.take (Si.parV x.k).toNat).any nnB) = true then 8 else if frB x.pd 4096 = true then 0 else 9
noncomputable def codL : List In5 → Int
  | [] => 0
  | x :: r => if chV x.1 x.2.1 x.2.2.1 x.2.2.2.1 x.2.2.2.2 ≠ 0 then chV x.1 x.2.1 x.2.2.1 x.2.2.2.1 x.2.2.2.2 else if ownV x.1 = false then 8 else codL r
noncomputable def flowV (l : List In5) : Int := chk l.length (gph l.length (fun i => (inAt l i).1) (fun i => (inAt l i).2.2.2.2))
noncomputable def cdV (x : Fn) : Int := if flowV x.cs ≠ 0 then flowV x.cs else codL x.cs
def s4B (f t : Int) (n : Nat) : Bool := decide (0 ≤ f) && decide (f ≤ t) && decide (t ≤ (n : Int))
def rgV (x : Fn) : Int := if s4B x.f x.t x.cs.length = true then 0 else 9
def f0B : List Ln → Bool
  | [] => true
  | a :: _ => decide (a.1 = 0)
def lnV9 (x : Fn) : Int := if 16 < x.ls.length then 6 else if (f0B x.ls && (risB (x.cs.length : Int) (-1) (x.ls.map fun y => y.1) && !(x.ls.any lnB9))) = true then 0 else 9
def rfV9 (x : Fn) : Int := if (risB (x.cs.length : Int) (-1) (x.rs.map fun y => y.1) && !(x.rs.any rfB9)) = true then 0 else 11
def firN : List Int → Int
  | [] => 0
  | a :: r => if a ≠ 0 then a else firN r
/-- What Check answers. -/
noncomputable def chF (x : Fn) : Int := firN [frV x, cdV x, rgV x, lnV9 x, rfV9 x]
theorem Cd.of_in {w : World} {A : Option Addr} {n c : Nat} {l : List In5} (h : InL w A n c l) : Cd w w.heap.size A n c (fun i => (inAt l i).1) (fun i => (inAt l i).2.2.2.2) :=
  ⟨h.2.1, h.2.2.1, fun i hi => by
    obtain ⟨ad, e, hb, hc⟩ := h.2.2.2.2 i _ (inAt_some (by rw [h.1]; exact hi))
    exact ⟨ad, _, _, _, e, hb, hc⟩⟩
theorem slv_cap {w : World} {B : Nat} {A : Option Addr} {n c : Nat} {l : List Int} (hl : l.length = n) (h : SlV w B (.slice A n c) (ints l)) : n ≤ c := by
  have hi : (ints l).length = n := by simp [ints, hl]
  generalize ints l = vs at h hi
  subst hi
  obtain ⟨L, hL⟩ : ∃ L, vs.length = L := ⟨_, rfl⟩
  rw [hL] at h ⊢
  cases h with
  | nil => exact Nat.le_refl _
  | at_ ad cap _ hc hm h => omega
theorem isNaN_any (a : Int) (w : World) : Calls Tryz.prog 279 #[.int .i64 a] w fun e w' => e = .returned (.bool false) ∧ w = w' := by
  go_enter Tryz.func279, Tryz.ntmps279
  go_wp2
  go_ret
  exact ⟨ret_bool (by simp), rfl⟩
theorem less_any (a b : Int) (w : World) : Calls Tryz.prog 220 #[.int .i64 a, .int .i64 b] w fun e w' => e = .returned (.bool (decide (a < b))) ∧ w = w' := by
  have HN := Lib.hid isNaN_any
  by_cases h : a < b
  · rw [decide_eq_true h]
    go_enter Tryz.func220, Tryz.ntmps220
    go_wp2_with (go_at_call 279; refine (HN.out _ _).mono ?_; rintro e w9 ⟨rfl, rfl⟩)
    go_ret
    exact ⟨ret_bool (by first | rfl | (simp; done) | (simp [h]; done)), rfl⟩
  · rw [decide_eq_false h]
    go_enter Tryz.func220, Tryz.ntmps220
    go_wp2_with (go_at_call 279; refine (HN.out _ _).mono ?_; rintro e w9 ⟨rfl, rfl⟩)
    go_ret
    exact ⟨ret_bool (by first | rfl | (simp; done) | (simp [h]; done)), rfl⟩

set_option maxRecDepth 100000 in
set_option maxHeartbeats 4000000 in
theorem sorted4_any (w : World) (g : Nat) (T : TypeId) (f t : Int) (n : Nat) (h : Blk w g T #[.int .i64 0, .int .i64 f, .int .i64 t, .int .i64 n]) :
    Calls Tryz.prog 135 #[.slice (some ⟨g, 0, none⟩) 4 4] w (BoAns w (s4B f t n)) := by
  have HC := Lib.hid (show ∀ W, Below w.heap.size w W → W.cell? ⟨g, 0, none⟩ = some (.int .i64 0) ∧ W.cell? ⟨g, 1, none⟩ = some (.int .i64 f) ∧ W.cell? ⟨g, 2, none⟩ = some (.int .i64 t) ∧ W.cell? ⟨g, 3, none⟩ = some (.int .i64 (n : Int)) from fun W hb => by
    have h2 := h.below hb h.lt
    exact ⟨h2.cell 0, h2.cell 1, h2.cell 2, h2.cell 3⟩)
  have HLS := Lib.hid (fun a b W => less_any a b W)
  unfold s4B
  clear h
  go_enter Tryz.func135, Tryz.ntmps135
  go_wp2_with fail
  go_loopw [3] (fun i wr => ∃ k : Nat, k ≤ 3 ∧ i = .int .i64 (k : Int) ∧ Hid ((k ≤ 2 → t ≤ (n : Int)) ∧ (k ≤ 1 → f ≤ t) ∧ (k = 0 → 0 ≤ f)) ∧ Below w.heap.size w wr) (fun i _ => (intOf i).toNat)
  case atStart => exact ⟨3, Nat.le_refl _, rfl, Lib.hid ⟨by omega, by omega, by omega⟩, Below.refl _ _⟩
  case round =>
    obtain ⟨k, hk, rfl, HO, hbel⟩ := hrel
    have HBE := Lib.hid hbel
    have HBD := Lib.hid (show Below w.heap.size w wr.drew from hbel.drew)
    have hw0 : IntKind.i64.wrap 0 = 0 := by decide
    have hw1 : IntKind.i64.wrap 1 = 1 := by decide
    have hw2 : IntKind.i64.wrap 2 = 2 := by decide
    have hkk : k = 0 ∨ k = 1 ∨ k = 2 ∨ k = 3 := by omega
    rcases hkk with rfl | rfl | rfl | rfl
    · have HV := Lib.hid (show (decide (0 ≤ f) && decide (f ≤ t) && decide (t ≤ (n : Int))) = true from by
        have h1 := HO.out.1 (by omega)
        have h2 := HO.out.2.1 (by omega)
        have h3 := HO.out.2.2 rfl
        simp [h1, h2, h3])
      clear hbel hk
      go_wp2_with fail
      go_ret
      exact ⟨ret_bool (by rw [HV.out]), HBE.out⟩
    · by_cases hlt : (f : Int) < 0
      · have hd : decide ((f : Int) < 0) = true := decide_eq_true hlt
        have HV := Lib.hid (show (decide (0 ≤ f) && decide (f ≤ t) && decide (t ≤ (n : Int))) = false from by
          have : ¬ 0 ≤ f := by omega
          simp [this])
        clear hbel hk
        go_wp2_with fail
        refine wp_region_noPanic ?_
        refine wp_region_held_drew (S := fun W => W.cell? ⟨g, 1, none⟩ = some (.int .i64 f) ∧ W.cell? ⟨g, 0, none⟩ = some (.int .i64 0)) (by kernel_rfl) (⟨(HC.out _ HBD.out).2.1, (HC.out _ HBD.out).1⟩) (fun hHeld => ?_)
        refine wpAnyH_take (i := 0) rfl (by kernel_rfl) (by kernel_rfl) (by kernel_rfl) (fun _ _ _ h => h) (Or.inl ⟨by rfl, by intro W hSW; (try dsimp only at hSW); go_simp; try (with_reducible rfl)⟩) hHeld ?_
        try simp only [Act.put, List.getElem_toArray, List.getElem_cons_zero, List.getElem_cons_succ, List.setIfInBounds_toArray, List.set_cons_zero, List.set_cons_succ]
        refine wpAnyH_take (i := 1) rfl (by kernel_rfl) (by kernel_rfl) (by kernel_rfl) (fun _ _ _ h => h) (Or.inl ⟨by rfl, by intro W hSW; (try dsimp only at hSW); go_simp; try (with_reducible rfl)⟩) hHeld ?_
        try simp only [Act.put, List.getElem_toArray, List.getElem_cons_zero, List.getElem_cons_succ, List.setIfInBounds_toArray, List.set_cons_zero, List.set_cons_succ]
        refine wpAnyH_take (i := 2) rfl (by kernel_rfl) (by kernel_rfl) (by kernel_rfl) (fun _ _ _ h => h) (Or.inl ⟨by rfl, by intro W hSW; (try dsimp only at hSW); go_simp; try (with_reducible rfl)⟩) hHeld ?_
        try simp only [Act.put, List.getElem_toArray, List.getElem_cons_zero, List.getElem_cons_succ, List.setIfInBounds_toArray, List.set_cons_zero, List.set_cons_succ]
        refine wpAnyH_take (i := 3) rfl (by kernel_rfl) (by kernel_rfl) (by kernel_rfl) (fun _ _ _ h => h) (Or.inl ⟨by rfl, by intro W hSW; (try dsimp only at hSW); go_simp; try (with_reducible rfl)⟩) hHeld ?_
        try simp only [Act.put, List.getElem_toArray, List.getElem_cons_zero, List.getElem_cons_succ, List.setIfInBounds_toArray, List.set_cons_zero, List.set_cons_succ]
        refine wpAnyH_take (i := 4) rfl (by kernel_rfl) (by kernel_rfl) (by kernel_rfl) (fun _ _ _ h => h) (Or.inl ⟨by rfl, by intro W hSW; (try dsimp only at hSW); go_simp; try (with_reducible rfl)⟩) hHeld ?_
        try simp only [Act.put, List.getElem_toArray, List.getElem_cons_zero, List.getElem_cons_succ, List.setIfInBounds_toArray, List.set_cons_zero, List.set_cons_succ]
        refine wpAnyH_take (i := 5) rfl (by kernel_rfl) (by kernel_rfl) (by kernel_rfl) (fun _ _ _ h => h) (Or.inl ⟨by rfl, by intro W hSW; (try dsimp only at hSW); go_simp; try (with_reducible rfl)⟩) hHeld ?_
        try simp only [Act.put, List.getElem_toArray, List.getElem_cons_zero, List.getElem_cons_succ, List.setIfInBounds_toArray, List.set_cons_zero, List.set_cons_succ]
        refine wpAnyH_take (i := 6) rfl (by kernel_rfl) (by kernel_rfl) (by kernel_rfl) (fun _ _ _ h => h) (Or.inl ⟨by rfl, by intro W hSW; (try dsimp only at hSW); go_simp; try (with_reducible rfl)⟩) hHeld ?_
        try simp only [Act.put, List.getElem_toArray, List.getElem_cons_zero, List.getElem_cons_succ, List.setIfInBounds_toArray, List.set_cons_zero, List.set_cons_succ]
        refine wpAnyH_take (i := 7) rfl (by kernel_rfl) (by kernel_rfl) (by kernel_rfl) (fun _ _ _ h => h) (Or.inl ⟨by rfl, by intro W hSW; (try dsimp only at hSW); go_simp; try (with_reducible rfl)⟩) hHeld ?_
        try simp only [Act.put, List.getElem_toArray, List.getElem_cons_zero, List.getElem_cons_succ, List.setIfInBounds_toArray, List.set_cons_zero, List.set_cons_succ]
        refine wpAnyH_take (i := 8) rfl (by kernel_rfl) (by kernel_rfl) (by kernel_rfl) (fun _ _ _ h => h) (Or.inl ⟨by rfl, by intro W hSW; (try dsimp only at hSW); go_simp; try (with_reducible rfl)⟩) hHeld ?_
        try simp only [Act.put, List.getElem_toArray, List.getElem_cons_zero, List.getElem_cons_succ, List.setIfInBounds_toArray, List.set_cons_zero, List.set_cons_succ]
        refine wpAnyH_ready (rs := [9]) (by kernel_rfl) (by simp) ?_
        refine AllReadyH.cons rfl (fun K hK => ?_) AllReadyH.nil
        go_simp
        refine (HLS.out f 0 _).mono ?_
        rintro e w9 ⟨rfl, rfl⟩
        rw [hd]
        try go_wp2_with fail
        refine hK.out _ _ (⟨(HC.out _ HBD.out).2.1, (HC.out _ HBD.out).1⟩) ?_
        clear hK K hHeld
        intro hHeld
        try simp only [Act.put, List.getElem_toArray, List.getElem_cons_zero, List.getElem_cons_succ, List.setIfInBounds_toArray, List.set_cons_zero, List.set_cons_succ]
        refine wpAnyH_done (by kernel_rfl) ?_ _
        refine NoPanic.normal ?_
        go_wp2_with fail
        go_ret
        exact ⟨ret_bool (by rw [HV.out]), HBD.out⟩
      · have hd : decide ((f : Int) < 0) = false := decide_eq_false hlt
        have HO2 := Lib.hid (show ((0 : Nat) ≤ 2 → t ≤ (n : Int)) ∧ ((0 : Nat) ≤ 1 → f ≤ t) ∧ ((0 : Nat) = 0 → 0 ≤ f) from ⟨fun _ => HO.out.1 (by omega), fun _ => HO.out.2.1 (by omega), fun _ => by omega⟩)
        clear hbel hk
        go_wp2_with fail
        refine wp_region_noPanic ?_
        refine wp_region_held_drew (S := fun W => W.cell? ⟨g, 1, none⟩ = some (.int .i64 f) ∧ W.cell? ⟨g, 0, none⟩ = some (.int .i64 0)) (by kernel_rfl) (⟨(HC.out _ HBD.out).2.1, (HC.out _ HBD.out).1⟩) (fun hHeld => ?_)
        refine wpAnyH_take (i := 0) rfl (by kernel_rfl) (by kernel_rfl) (by kernel_rfl) (fun _ _ _ h => h) (Or.inl ⟨by rfl, by intro W hSW; (try dsimp only at hSW); go_simp; try (with_reducible rfl)⟩) hHeld ?_
        try simp only [Act.put, List.getElem_toArray, List.getElem_cons_zero, List.getElem_cons_succ, List.setIfInBounds_toArray, List.set_cons_zero, List.set_cons_succ]
        refine wpAnyH_take (i := 1) rfl (by kernel_rfl) (by kernel_rfl) (by kernel_rfl) (fun _ _ _ h => h) (Or.inl ⟨by rfl, by intro W hSW; (try dsimp only at hSW); go_simp; try (with_reducible rfl)⟩) hHeld ?_
        try simp only [Act.put, List.getElem_toArray, List.getElem_cons_zero, List.getElem_cons_succ, List.setIfInBounds_toArray, List.set_cons_zero, List.set_cons_succ]
        refine wpAnyH_take (i := 2) rfl (by kernel_rfl) (by kernel_rfl) (by kernel_rfl) (fun _ _ _ h => h) (Or.inl ⟨by rfl, by intro W hSW; (try dsimp only at hSW); go_simp; try (with_reducible rfl)⟩) hHeld ?_
        try simp only [Act.put, List.getElem_toArray, List.getElem_cons_zero, List.getElem_cons_succ, List.setIfInBounds_toArray, List.set_cons_zero, List.set_cons_succ]
        refine wpAnyH_take (i := 3) rfl (by kernel_rfl) (by kernel_rfl) (by kernel_rfl) (fun _ _ _ h => h) (Or.inl ⟨by rfl, by intro W hSW; (try dsimp only at hSW); go_simp; try (with_reducible rfl)⟩) hHeld ?_
        try simp only [Act.put, List.getElem_toArray, List.getElem_cons_zero, List.getElem_cons_succ, List.setIfInBounds_toArray, List.set_cons_zero, List.set_cons_succ]
        refine wpAnyH_take (i := 4) rfl (by kernel_rfl) (by kernel_rfl) (by kernel_rfl) (fun _ _ _ h => h) (Or.inl ⟨by rfl, by intro W hSW; (try dsimp only at hSW); go_simp; try (with_reducible rfl)⟩) hHeld ?_
        try simp only [Act.put, List.getElem_toArray, List.getElem_cons_zero, List.getElem_cons_succ, List.setIfInBounds_toArray, List.set_cons_zero, List.set_cons_succ]
        refine wpAnyH_take (i := 5) rfl (by kernel_rfl) (by kernel_rfl) (by kernel_rfl) (fun _ _ _ h => h) (Or.inl ⟨by rfl, by intro W hSW; (try dsimp only at hSW); go_simp; try (with_reducible rfl)⟩) hHeld ?_
        try simp only [Act.put, List.getElem_toArray, List.getElem_cons_zero, List.getElem_cons_succ, List.setIfInBounds_toArray, List.set_cons_zero, List.set_cons_succ]
        refine wpAnyH_take (i := 6) rfl (by kernel_rfl) (by kernel_rfl) (by kernel_rfl) (fun _ _ _ h => h) (Or.inl ⟨by rfl, by intro W hSW; (try dsimp only at hSW); go_simp; try (with_reducible rfl)⟩) hHeld ?_
        try simp only [Act.put, List.getElem_toArray, List.getElem_cons_zero, List.getElem_cons_succ, List.setIfInBounds_toArray, List.set_cons_zero, List.set_cons_succ]
        refine wpAnyH_take (i := 7) rfl (by kernel_rfl) (by kernel_rfl) (by kernel_rfl) (fun _ _ _ h => h) (Or.inl ⟨by rfl, by intro W hSW; (try dsimp only at hSW); go_simp; try (with_reducible rfl)⟩) hHeld ?_
        try simp only [Act.put, List.getElem_toArray, List.getElem_cons_zero, List.getElem_cons_succ, List.setIfInBounds_toArray, List.set_cons_zero, List.set_cons_succ]
        refine wpAnyH_take (i := 8) rfl (by kernel_rfl) (by kernel_rfl) (by kernel_rfl) (fun _ _ _ h => h) (Or.inl ⟨by rfl, by intro W hSW; (try dsimp only at hSW); go_simp; try (with_reducible rfl)⟩) hHeld ?_
        try simp only [Act.put, List.getElem_toArray, List.getElem_cons_zero, List.getElem_cons_succ, List.setIfInBounds_toArray, List.set_cons_zero, List.set_cons_succ]
        refine wpAnyH_ready (rs := [9]) (by kernel_rfl) (by simp) ?_
        refine AllReadyH.cons rfl (fun K hK => ?_) AllReadyH.nil
        go_simp
        refine (HLS.out f 0 _).mono ?_
        rintro e w9 ⟨rfl, rfl⟩
        rw [hd]
        try go_wp2_with fail
        refine hK.out _ _ (⟨(HC.out _ HBD.out).2.1, (HC.out _ HBD.out).1⟩) ?_
        clear hK K hHeld
        intro hHeld
        try simp only [Act.put, List.getElem_toArray, List.getElem_cons_zero, List.getElem_cons_succ, List.setIfInBounds_toArray, List.set_cons_zero, List.set_cons_succ]
        refine wpAnyH_done (by kernel_rfl) ?_ _
        refine NoPanic.normal ?_
        go_wp2_with fail
        go_roundw
        case rel => exact ⟨0, by omega, by go_num, Lib.hid (by have := HO2.out; simpa using this), HBD.out⟩
        case measure => simp [intOf]
    · by_cases hlt : (t : Int) < f
      · have hd : decide ((t : Int) < f) = true := decide_eq_true hlt
        have HV := Lib.hid (show (decide (0 ≤ f) && decide (f ≤ t) && decide (t ≤ (n : Int))) = false from by
          have : ¬ f ≤ t := by omega
          simp [this])
        clear hbel hk
        go_wp2_with fail
        refine wp_region_noPanic ?_
        refine wp_region_held_drew (S := fun W => W.cell? ⟨g, 2, none⟩ = some (.int .i64 t) ∧ W.cell? ⟨g, 1, none⟩ = some (.int .i64 f)) (by kernel_rfl) (⟨(HC.out _ HBD.out).2.2.1, (HC.out _ HBD.out).2.1⟩) (fun hHeld => ?_)
        refine wpAnyH_take (i := 0) rfl (by kernel_rfl) (by kernel_rfl) (by kernel_rfl) (fun _ _ _ h => h) (Or.inl ⟨by rfl, by intro W hSW; (try dsimp only at hSW); go_simp; try (with_reducible rfl)⟩) hHeld ?_
        try simp only [Act.put, List.getElem_toArray, List.getElem_cons_zero, List.getElem_cons_succ, List.setIfInBounds_toArray, List.set_cons_zero, List.set_cons_succ]
        refine wpAnyH_take (i := 1) rfl (by kernel_rfl) (by kernel_rfl) (by kernel_rfl) (fun _ _ _ h => h) (Or.inl ⟨by rfl, by intro W hSW; (try dsimp only at hSW); go_simp; try (with_reducible rfl)⟩) hHeld ?_
        try simp only [Act.put, List.getElem_toArray, List.getElem_cons_zero, List.getElem_cons_succ, List.setIfInBounds_toArray, List.set_cons_zero, List.set_cons_succ]
        refine wpAnyH_take (i := 2) rfl (by kernel_rfl) (by kernel_rfl) (by kernel_rfl) (fun _ _ _ h => h) (Or.inl ⟨by rfl, by intro W hSW; (try dsimp only at hSW); go_simp; try (with_reducible rfl)⟩) hHeld ?_
        try simp only [Act.put, List.getElem_toArray, List.getElem_cons_zero, List.getElem_cons_succ, List.setIfInBounds_toArray, List.set_cons_zero, List.set_cons_succ]
        refine wpAnyH_take (i := 3) rfl (by kernel_rfl) (by kernel_rfl) (by kernel_rfl) (fun _ _ _ h => h) (Or.inl ⟨by rfl, by intro W hSW; (try dsimp only at hSW); go_simp; try (with_reducible rfl)⟩) hHeld ?_
        try simp only [Act.put, List.getElem_toArray, List.getElem_cons_zero, List.getElem_cons_succ, List.setIfInBounds_toArray, List.set_cons_zero, List.set_cons_succ]
        refine wpAnyH_take (i := 4) rfl (by kernel_rfl) (by kernel_rfl) (by kernel_rfl) (fun _ _ _ h => h) (Or.inl ⟨by rfl, by intro W hSW; (try dsimp only at hSW); go_simp; try (with_reducible rfl)⟩) hHeld ?_
        try simp only [Act.put, List.getElem_toArray, List.getElem_cons_zero, List.getElem_cons_succ, List.setIfInBounds_toArray, List.set_cons_zero, List.set_cons_succ]
        refine wpAnyH_take (i := 5) rfl (by kernel_rfl) (by kernel_rfl) (by kernel_rfl) (fun _ _ _ h => h) (Or.inl ⟨by rfl, by intro W hSW; (try dsimp only at hSW); go_simp; try (with_reducible rfl)⟩) hHeld ?_
        try simp only [Act.put, List.getElem_toArray, List.getElem_cons_zero, List.getElem_cons_succ, List.setIfInBounds_toArray, List.set_cons_zero, List.set_cons_succ]
        refine wpAnyH_take (i := 6) rfl (by kernel_rfl) (by kernel_rfl) (by kernel_rfl) (fun _ _ _ h => h) (Or.inl ⟨by rfl, by intro W hSW; (try dsimp only at hSW); go_simp; try (with_reducible rfl)⟩) hHeld ?_
        try simp only [Act.put, List.getElem_toArray, List.getElem_cons_zero, List.getElem_cons_succ, List.setIfInBounds_toArray, List.set_cons_zero, List.set_cons_succ]
        refine wpAnyH_take (i := 7) rfl (by kernel_rfl) (by kernel_rfl) (by kernel_rfl) (fun _ _ _ h => h) (Or.inl ⟨by rfl, by intro W hSW; (try dsimp only at hSW); go_simp; try (with_reducible rfl)⟩) hHeld ?_
        try simp only [Act.put, List.getElem_toArray, List.getElem_cons_zero, List.getElem_cons_succ, List.setIfInBounds_toArray, List.set_cons_zero, List.set_cons_succ]
        refine wpAnyH_take (i := 8) rfl (by kernel_rfl) (by kernel_rfl) (by kernel_rfl) (fun _ _ _ h => h) (Or.inl ⟨by rfl, by intro W hSW; (try dsimp only at hSW); go_simp; try (with_reducible rfl)⟩) hHeld ?_
        try simp only [Act.put, List.getElem_toArray, List.getElem_cons_zero, List.getElem_cons_succ, List.setIfInBounds_toArray, List.set_cons_zero, List.set_cons_succ]
        refine wpAnyH_ready (rs := [9]) (by kernel_rfl) (by simp) ?_
        refine AllReadyH.cons rfl (fun K hK => ?_) AllReadyH.nil
        go_simp
        refine (HLS.out t f _).mono ?_
        rintro e w9 ⟨rfl, rfl⟩
        rw [hd]
        try go_wp2_with fail
        refine hK.out _ _ (⟨(HC.out _ HBD.out).2.2.1, (HC.out _ HBD.out).2.1⟩) ?_
        clear hK K hHeld
        intro hHeld
        try simp only [Act.put, List.getElem_toArray, List.getElem_cons_zero, List.getElem_cons_succ, List.setIfInBounds_toArray, List.set_cons_zero, List.set_cons_succ]
        refine wpAnyH_done (by kernel_rfl) ?_ _
        refine NoPanic.normal ?_
        go_wp2_with fail
        go_ret
        exact ⟨ret_bool (by rw [HV.out]), HBD.out⟩
      · have hd : decide ((t : Int) < f) = false := decide_eq_false hlt
        have HO2 := Lib.hid (show ((1 : Nat) ≤ 2 → t ≤ (n : Int)) ∧ ((1 : Nat) ≤ 1 → f ≤ t) ∧ ((1 : Nat) = 0 → 0 ≤ f) from ⟨fun _ => HO.out.1 (by omega), fun _ => by omega, fun h => by omega⟩)
        clear hbel hk
        go_wp2_with fail
        refine wp_region_noPanic ?_
        refine wp_region_held_drew (S := fun W => W.cell? ⟨g, 2, none⟩ = some (.int .i64 t) ∧ W.cell? ⟨g, 1, none⟩ = some (.int .i64 f)) (by kernel_rfl) (⟨(HC.out _ HBD.out).2.2.1, (HC.out _ HBD.out).2.1⟩) (fun hHeld => ?_)
        refine wpAnyH_take (i := 0) rfl (by kernel_rfl) (by kernel_rfl) (by kernel_rfl) (fun _ _ _ h => h) (Or.inl ⟨by rfl, by intro W hSW; (try dsimp only at hSW); go_simp; try (with_reducible rfl)⟩) hHeld ?_
        try simp only [Act.put, List.getElem_toArray, List.getElem_cons_zero, List.getElem_cons_succ, List.setIfInBounds_toArray, List.set_cons_zero, List.set_cons_succ]
        refine wpAnyH_take (i := 1) rfl (by kernel_rfl) (by kernel_rfl) (by kernel_rfl) (fun _ _ _ h => h) (Or.inl ⟨by rfl, by intro W hSW; (try dsimp only at hSW); go_simp; try (with_reducible rfl)⟩) hHeld ?_
        try simp only [Act.put, List.getElem_toArray, List.getElem_cons_zero, List.getElem_cons_succ, List.setIfInBounds_toArray, List.set_cons_zero, List.set_cons_succ]
        refine wpAnyH_take (i := 2) rfl (by kernel_rfl) (by kernel_rfl) (by kernel_rfl) (fun _ _ _ h => h) (Or.inl ⟨by rfl, by intro W hSW; (try dsimp only at hSW); go_simp; try (with_reducible rfl)⟩) hHeld ?_
        try simp only [Act.put, List.getElem_toArray, List.getElem_cons_zero, List.getElem_cons_succ, List.setIfInBounds_toArray, List.set_cons_zero, List.set_cons_succ]
        refine wpAnyH_take (i := 3) rfl (by kernel_rfl) (by kernel_rfl) (by kernel_rfl) (fun _ _ _ h => h) (Or.inl ⟨by rfl, by intro W hSW; (try dsimp only at hSW); go_simp; try (with_reducible rfl)⟩) hHeld ?_
        try simp only [Act.put, List.getElem_toArray, List.getElem_cons_zero, List.getElem_cons_succ, List.setIfInBounds_toArray, List.set_cons_zero, List.set_cons_succ]
        refine wpAnyH_take (i := 4) rfl (by kernel_rfl) (by kernel_rfl) (by kernel_rfl) (fun _ _ _ h => h) (Or.inl ⟨by rfl, by intro W hSW; (try dsimp only at hSW); go_simp; try (with_reducible rfl)⟩) hHeld ?_
        try simp only [Act.put, List.getElem_toArray, List.getElem_cons_zero, List.getElem_cons_succ, List.setIfInBounds_toArray, List.set_cons_zero, List.set_cons_succ]
        refine wpAnyH_take (i := 5) rfl (by kernel_rfl) (by kernel_rfl) (by kernel_rfl) (fun _ _ _ h => h) (Or.inl ⟨by rfl, by intro W hSW; (try dsimp only at hSW); go_simp; try (with_reducible rfl)⟩) hHeld ?_
        try simp only [Act.put, List.getElem_toArray, List.getElem_cons_zero, List.getElem_cons_succ, List.setIfInBounds_toArray, List.set_cons_zero, List.set_cons_succ]
        refine wpAnyH_take (i := 6) rfl (by kernel_rfl) (by kernel_rfl) (by kernel_rfl) (fun _ _ _ h => h) (Or.inl ⟨by rfl, by intro W hSW; (try dsimp only at hSW); go_simp; try (with_reducible rfl)⟩) hHeld ?_
        try simp only [Act.put, List.getElem_toArray, List.getElem_cons_zero, List.getElem_cons_succ, List.setIfInBounds_toArray, List.set_cons_zero, List.set_cons_succ]
        refine wpAnyH_take (i := 7) rfl (by kernel_rfl) (by kernel_rfl) (by kernel_rfl) (fun _ _ _ h => h) (Or.inl ⟨by rfl, by intro W hSW; (try dsimp only at hSW); go_simp; try (with_reducible rfl)⟩) hHeld ?_
        try simp only [Act.put, List.getElem_toArray, List.getElem_cons_zero, List.getElem_cons_succ, List.setIfInBounds_toArray, List.set_cons_zero, List.set_cons_succ]
        refine wpAnyH_take (i := 8) rfl (by kernel_rfl) (by kernel_rfl) (by kernel_rfl) (fun _ _ _ h => h) (Or.inl ⟨by rfl, by intro W hSW; (try dsimp only at hSW); go_simp; try (with_reducible rfl)⟩) hHeld ?_
        try simp only [Act.put, List.getElem_toArray, List.getElem_cons_zero, List.getElem_cons_succ, List.setIfInBounds_toArray, List.set_cons_zero, List.set_cons_succ]
        refine wpAnyH_ready (rs := [9]) (by kernel_rfl) (by simp) ?_
        refine AllReadyH.cons rfl (fun K hK => ?_) AllReadyH.nil
        go_simp
        refine (HLS.out t f _).mono ?_
        rintro e w9 ⟨rfl, rfl⟩
        rw [hd]
        try go_wp2_with fail
        refine hK.out _ _ (⟨(HC.out _ HBD.out).2.2.1, (HC.out _ HBD.out).2.1⟩) ?_
        clear hK K hHeld
        intro hHeld
        try simp only [Act.put, List.getElem_toArray, List.getElem_cons_zero, List.getElem_cons_succ, List.setIfInBounds_toArray, List.set_cons_zero, List.set_cons_succ]
        refine wpAnyH_done (by kernel_rfl) ?_ _
        refine NoPanic.normal ?_
        go_wp2_with fail
        go_roundw
        case rel => exact ⟨1, by omega, by go_num, Lib.hid (by have := HO2.out; simpa using this), HBD.out⟩
        case measure => simp [intOf]
    · by_cases hlt : ((n : Int) : Int) < t
      · have hd : decide (((n : Int) : Int) < t) = true := decide_eq_true hlt
        have HV := Lib.hid (show (decide (0 ≤ f) && decide (f ≤ t) && decide (t ≤ (n : Int))) = false from by
          have : ¬ t ≤ (n : Int) := by omega
          simp [this])
        clear hbel hk
        go_wp2_with fail
        refine wp_region_noPanic ?_
        refine wp_region_held_drew (S := fun W => W.cell? ⟨g, 3, none⟩ = some (.int .i64 (n : Int)) ∧ W.cell? ⟨g, 2, none⟩ = some (.int .i64 t)) (by kernel_rfl) (⟨(HC.out _ HBD.out).2.2.2, (HC.out _ HBD.out).2.2.1⟩) (fun hHeld => ?_)
        refine wpAnyH_take (i := 0) rfl (by kernel_rfl) (by kernel_rfl) (by kernel_rfl) (fun _ _ _ h => h) (Or.inl ⟨by rfl, by intro W hSW; (try dsimp only at hSW); go_simp; try (with_reducible rfl)⟩) hHeld ?_
        try simp only [Act.put, List.getElem_toArray, List.getElem_cons_zero, List.getElem_cons_succ, List.setIfInBounds_toArray, List.set_cons_zero, List.set_cons_succ]
        refine wpAnyH_take (i := 1) rfl (by kernel_rfl) (by kernel_rfl) (by kernel_rfl) (fun _ _ _ h => h) (Or.inl ⟨by rfl, by intro W hSW; (try dsimp only at hSW); go_simp; try (with_reducible rfl)⟩) hHeld ?_
        try simp only [Act.put, List.getElem_toArray, List.getElem_cons_zero, List.getElem_cons_succ, List.setIfInBounds_toArray, List.set_cons_zero, List.set_cons_succ]
        refine wpAnyH_take (i := 2) rfl (by kernel_rfl) (by kernel_rfl) (by kernel_rfl) (fun _ _ _ h => h) (Or.inl ⟨by rfl, by intro W hSW; (try dsimp only at hSW); go_simp; try (with_reducible rfl)⟩) hHeld ?_
        try simp only [Act.put, List.getElem_toArray, List.getElem_cons_zero, List.getElem_cons_succ, List.setIfInBounds_toArray, List.set_cons_zero, List.set_cons_succ]
        refine wpAnyH_take (i := 3) rfl (by kernel_rfl) (by kernel_rfl) (by kernel_rfl) (fun _ _ _ h => h) (Or.inl ⟨by rfl, by intro W hSW; (try dsimp only at hSW); go_simp; try (with_reducible rfl)⟩) hHeld ?_
        try simp only [Act.put, List.getElem_toArray, List.getElem_cons_zero, List.getElem_cons_succ, List.setIfInBounds_toArray, List.set_cons_zero, List.set_cons_succ]
        refine wpAnyH_take (i := 4) rfl (by kernel_rfl) (by kernel_rfl) (by kernel_rfl) (fun _ _ _ h => h) (Or.inl ⟨by rfl, by intro W hSW; (try dsimp only at hSW); go_simp; try (with_reducible rfl)⟩) hHeld ?_
        try simp only [Act.put, List.getElem_toArray, List.getElem_cons_zero, List.getElem_cons_succ, List.setIfInBounds_toArray, List.set_cons_zero, List.set_cons_succ]
        refine wpAnyH_take (i := 5) rfl (by kernel_rfl) (by kernel_rfl) (by kernel_rfl) (fun _ _ _ h => h) (Or.inl ⟨by rfl, by intro W hSW; (try dsimp only at hSW); go_simp; try (with_reducible rfl)⟩) hHeld ?_
        try simp only [Act.put, List.getElem_toArray, List.getElem_cons_zero, List.getElem_cons_succ, List.setIfInBounds_toArray, List.set_cons_zero, List.set_cons_succ]
        refine wpAnyH_take (i := 6) rfl (by kernel_rfl) (by kernel_rfl) (by kernel_rfl) (fun _ _ _ h => h) (Or.inl ⟨by rfl, by intro W hSW; (try dsimp only at hSW); go_simp; try (with_reducible rfl)⟩) hHeld ?_
        try simp only [Act.put, List.getElem_toArray, List.getElem_cons_zero, List.getElem_cons_succ, List.setIfInBounds_toArray, List.set_cons_zero, List.set_cons_succ]
        refine wpAnyH_take (i := 7) rfl (by kernel_rfl) (by kernel_rfl) (by kernel_rfl) (fun _ _ _ h => h) (Or.inl ⟨by rfl, by intro W hSW; (try dsimp only at hSW); go_simp; try (with_reducible rfl)⟩) hHeld ?_
        try simp only [Act.put, List.getElem_toArray, List.getElem_cons_zero, List.getElem_cons_succ, List.setIfInBounds_toArray, List.set_cons_zero, List.set_cons_succ]
        refine wpAnyH_take (i := 8) rfl (by kernel_rfl) (by kernel_rfl) (by kernel_rfl) (fun _ _ _ h => h) (Or.inl ⟨by rfl, by intro W hSW; (try dsimp only at hSW); go_simp; try (with_reducible rfl)⟩) hHeld ?_
        try simp only [Act.put, List.getElem_toArray, List.getElem_cons_zero, List.getElem_cons_succ, List.setIfInBounds_toArray, List.set_cons_zero, List.set_cons_succ]
        refine wpAnyH_ready (rs := [9]) (by kernel_rfl) (by simp) ?_
        refine AllReadyH.cons rfl (fun K hK => ?_) AllReadyH.nil
        go_simp
        refine (HLS.out (n : Int) t _).mono ?_
        rintro e w9 ⟨rfl, rfl⟩
        rw [hd]
        try go_wp2_with fail
        refine hK.out _ _ (⟨(HC.out _ HBD.out).2.2.2, (HC.out _ HBD.out).2.2.1⟩) ?_
        clear hK K hHeld
        intro hHeld
        try simp only [Act.put, List.getElem_toArray, List.getElem_cons_zero, List.getElem_cons_succ, List.setIfInBounds_toArray, List.set_cons_zero, List.set_cons_succ]
        refine wpAnyH_done (by kernel_rfl) ?_ _
        refine NoPanic.normal ?_
        go_wp2_with fail
        go_ret
        exact ⟨ret_bool (by rw [HV.out]), HBD.out⟩
      · have hd : decide (((n : Int) : Int) < t) = false := decide_eq_false hlt
        have HO2 := Lib.hid (show ((2 : Nat) ≤ 2 → t ≤ (n : Int)) ∧ ((2 : Nat) ≤ 1 → f ≤ t) ∧ ((2 : Nat) = 0 → 0 ≤ f) from ⟨fun _ => by omega, fun h => by omega, fun h => by omega⟩)
        clear hbel hk
        go_wp2_with fail
        refine wp_region_noPanic ?_
        refine wp_region_held_drew (S := fun W => W.cell? ⟨g, 3, none⟩ = some (.int .i64 (n : Int)) ∧ W.cell? ⟨g, 2, none⟩ = some (.int .i64 t)) (by kernel_rfl) (⟨(HC.out _ HBD.out).2.2.2, (HC.out _ HBD.out).2.2.1⟩) (fun hHeld => ?_)
        refine wpAnyH_take (i := 0) rfl (by kernel_rfl) (by kernel_rfl) (by kernel_rfl) (fun _ _ _ h => h) (Or.inl ⟨by rfl, by intro W hSW; (try dsimp only at hSW); go_simp; try (with_reducible rfl)⟩) hHeld ?_
        try simp only [Act.put, List.getElem_toArray, List.getElem_cons_zero, List.getElem_cons_succ, List.setIfInBounds_toArray, List.set_cons_zero, List.set_cons_succ]
        refine wpAnyH_take (i := 1) rfl (by kernel_rfl) (by kernel_rfl) (by kernel_rfl) (fun _ _ _ h => h) (Or.inl ⟨by rfl, by intro W hSW; (try dsimp only at hSW); go_simp; try (with_reducible rfl)⟩) hHeld ?_
        try simp only [Act.put, List.getElem_toArray, List.getElem_cons_zero, List.getElem_cons_succ, List.setIfInBounds_toArray, List.set_cons_zero, List.set_cons_succ]
        refine wpAnyH_take (i := 2) rfl (by kernel_rfl) (by kernel_rfl) (by kernel_rfl) (fun _ _ _ h => h) (Or.inl ⟨by rfl, by intro W hSW; (try dsimp only at hSW); go_simp; try (with_reducible rfl)⟩) hHeld ?_
        try simp only [Act.put, List.getElem_toArray, List.getElem_cons_zero, List.getElem_cons_succ, List.setIfInBounds_toArray, List.set_cons_zero, List.set_cons_succ]
        refine wpAnyH_take (i := 3) rfl (by kernel_rfl) (by kernel_rfl) (by kernel_rfl) (fun _ _ _ h => h) (Or.inl ⟨by rfl, by intro W hSW; (try dsimp only at hSW); go_simp; try (with_reducible rfl)⟩) hHeld ?_
        try simp only [Act.put, List.getElem_toArray, List.getElem_cons_zero, List.getElem_cons_succ, List.setIfInBounds_toArray, List.set_cons_zero, List.set_cons_succ]
        refine wpAnyH_take (i := 4) rfl (by kernel_rfl) (by kernel_rfl) (by kernel_rfl) (fun _ _ _ h => h) (Or.inl ⟨by rfl, by intro W hSW; (try dsimp only at hSW); go_simp; try (with_reducible rfl)⟩) hHeld ?_
        try simp only [Act.put, List.getElem_toArray, List.getElem_cons_zero, List.getElem_cons_succ, List.setIfInBounds_toArray, List.set_cons_zero, List.set_cons_succ]
        refine wpAnyH_take (i := 5) rfl (by kernel_rfl) (by kernel_rfl) (by kernel_rfl) (fun _ _ _ h => h) (Or.inl ⟨by rfl, by intro W hSW; (try dsimp only at hSW); go_simp; try (with_reducible rfl)⟩) hHeld ?_
        try simp only [Act.put, List.getElem_toArray, List.getElem_cons_zero, List.getElem_cons_succ, List.setIfInBounds_toArray, List.set_cons_zero, List.set_cons_succ]
        refine wpAnyH_take (i := 6) rfl (by kernel_rfl) (by kernel_rfl) (by kernel_rfl) (fun _ _ _ h => h) (Or.inl ⟨by rfl, by intro W hSW; (try dsimp only at hSW); go_simp; try (with_reducible rfl)⟩) hHeld ?_
        try simp only [Act.put, List.getElem_toArray, List.getElem_cons_zero, List.getElem_cons_succ, List.setIfInBounds_toArray, List.set_cons_zero, List.set_cons_succ]
        refine wpAnyH_take (i := 7) rfl (by kernel_rfl) (by kernel_rfl) (by kernel_rfl) (fun _ _ _ h => h) (Or.inl ⟨by rfl, by intro W hSW; (try dsimp only at hSW); go_simp; try (with_reducible rfl)⟩) hHeld ?_
        try simp only [Act.put, List.getElem_toArray, List.getElem_cons_zero, List.getElem_cons_succ, List.setIfInBounds_toArray, List.set_cons_zero, List.set_cons_succ]
        refine wpAnyH_take (i := 8) rfl (by kernel_rfl) (by kernel_rfl) (by kernel_rfl) (fun _ _ _ h => h) (Or.inl ⟨by rfl, by intro W hSW; (try dsimp only at hSW); go_simp; try (with_reducible rfl)⟩) hHeld ?_
        try simp only [Act.put, List.getElem_toArray, List.getElem_cons_zero, List.getElem_cons_succ, List.setIfInBounds_toArray, List.set_cons_zero, List.set_cons_succ]
        refine wpAnyH_ready (rs := [9]) (by kernel_rfl) (by simp) ?_
        refine AllReadyH.cons rfl (fun K hK => ?_) AllReadyH.nil
        go_simp
        refine (HLS.out (n : Int) t _).mono ?_
        rintro e w9 ⟨rfl, rfl⟩
        rw [hd]
        try go_wp2_with fail
        refine hK.out _ _ (⟨(HC.out _ HBD.out).2.2.2, (HC.out _ HBD.out).2.2.1⟩) ?_
        clear hK K hHeld
        intro hHeld
        try simp only [Act.put, List.getElem_toArray, List.getElem_cons_zero, List.getElem_cons_succ, List.setIfInBounds_toArray, List.set_cons_zero, List.set_cons_succ]
        refine wpAnyH_done (by kernel_rfl) ?_ _
        refine NoPanic.normal ?_
        go_wp2_with fail
        go_roundw
        case rel => exact ⟨2, by omega, by go_num, Lib.hid (by have := HO2.out; simpa using this), HBD.out⟩
        case measure => simp [intOf]

set_option maxRecDepth 100000 in
set_option maxHeartbeats 4000000 in
theorem chkFrame_any (w : World) (AK AL AC AR : Option Addr) (nK cK nL cL nC cC nR cR : Nat) (x : Fn) (hF : FnW w AK nK cK AL nL cL AC nC cC AR nR cR x) (hT : TX3 w) (hnn : nK ≤ 1000000 ∧ nL ≤ 1000000 ∧ nC ≤ 1000000 ∧ nR ≤ 1000000) :
    Calls Tryz.prog 58 #[.agg #[.int .i64 x.k, .slice AK nK cK, .int .i64 x.pd, .bool x.ns, .int .i64 x.f, .int .i64 x.t, .slice AL nL cL, .slice AC nC cC, .slice AR nR cR]] w (CAns w (frV x)) := by
  obtain ⟨k0, ks, pd, ns, f0, t0, ls, cs, rs⟩ := x
  obtain ⟨hk, hkl, hl, hc, hr⟩ := hF
  dsimp only at hk hkl hl hc hr ⊢
  have hll : ls.length = nL := hl.1
  have hcl : cs.length = nC := hc.1
  have hrl : rs.length = nR := hr.1
  obtain ⟨W1, hW1⟩ : ∃ W1, w.alloc (.cells #[.int .i64 k0, .slice AK nK cK, .int .i64 pd, .bool ns, .int .i64 f0, .int .i64 t0, .slice AL nL cL, .slice AC nC cC, .slice AR nR cR] 27) = W1 := ⟨_, rfl⟩
  have hsz1 : w.heap.size < W1.heap.size := by rw [← hW1]; simp
  have HB0 := Lib.hid (show Below w.heap.size w W1 by rw [← hW1]; exact alloc_ _ _)
  have HX := Lib.hid (show ∀ W, Below W1.heap.size W1 W → Blk W w.heap.size 27 #[.int .i64 k0, .slice AK nK cK, .int .i64 pd, .bool ns, .int .i64 f0, .int .i64 t0, .slice AL nL cL, .slice AC nC cC, .slice AR nR cR] from fun W hb => (hb.block _ hsz1).trans (by rw [← hW1]; exact Blk.new w _ _))
  obtain ⟨c0, c1, c2, c3, c4, c5, c6, c7, c8⟩ := blk9 (HX.out W1 (Below.refl _ _))
  have hIW : ∀ W, Below W1.heap.size W1 W → IW W (.slice AK nK cK) ks := fun W hb => hk.on (to_ HB0.out hb)
  have hcell : ∀ W, Below W1.heap.size W1 W → ∀ i, i < nK → ∃ ad, AK = some ad ∧ ad.block < W1.heap.size ∧ W.cell? (ad.add i) = some (.int .i64 (el ks i)) := fun W hb i hi => by
    obtain ⟨ad, e, hb9, _⟩ := iw_cell (hIW W1 (Below.refl _ _)) hkl hi
    obtain ⟨ad2, e2, _, hc2⟩ := iw_cell (hIW W hb) hkl hi
    rw [e] at e2; injection e2 with e2; subst e2
    exact ⟨ad, e, hb9, hc2⟩
  have HIS := Lib.hid (Si.is_any k0 W1)
  have HPA := Lib.hid (Si.par_any k0 W1)
  have HFR := Lib.hid (fun W => from0_any pd 4096 W)
  have hnc : nK ≤ cK := by have := hk; unfold IW at this; exact slv_cap hkl this
  unfold frV
  dsimp only
  rw [hkl]
  by_cases h1 : Si.isC k0 = false
  · rw [if_pos h1]
    rw [h1] at HIS
    go_enter Tryz.func58, Tryz.ntmps58
    go_wp2_with (go_at_call 126; refine HIS.out.mono ?_; rintro e w9 ⟨rfl, rfl⟩)
    go_ret
    exact ⟨rfl, HB0.out⟩
  · have h1' : Si.isC k0 = true := by simpa using h1
    rw [if_neg h1]
    rw [h1'] at HIS
    by_cases h2 : 16 < nK
    · have h2I : (16 : Int) < (nK : Int) := by omega
      rw [if_pos h2]
      go_enter Tryz.func58, Tryz.ntmps58
      go_wp2_with (go_at_call 126; refine HIS.out.mono ?_; rintro e w9 ⟨rfl, rfl⟩)
      go_ret
      exact ⟨rfl, HB0.out⟩
    · have h2I : ¬ (16 : Int) < (nK : Int) := by omega
      rw [if_neg h2]
      have hp0 : 0 ≤ Si.parV k0 := by unfold Si.parV; split <;> omega
      obtain ⟨p, hp⟩ : ∃ p : Nat, Si.parV k0 = (p : Int) := ⟨(Si.parV k0).toNat, by omega⟩
      rw [hp] at HPA ⊢
      rw [Int.toNat_natCast]
      clear hp hp0
      by_cases h3 : (nK : Int) < (p : Int)
      · rw [if_pos h3]
        go_enter Tryz.func58, Tryz.ntmps58
        go_wp2_with (first | (go_at_call 126; refine HIS.out.mono ?_; rintro e w9 ⟨rfl, rfl⟩) | (go_at_call 127; refine HPA.out.mono ?_; rintro e w9 ⟨rfl, rfl⟩))
        go_ret
        exact ⟨rfl, HB0.out⟩
      · rw [if_neg h3]
        have HC1 := Lib.hid (coNoKind_any W1 AK nK cK ks hcell ((hT.on HB0.out).2) hkl (by omega))
        have HC2 := Lib.hid (fun W (hb : Below W1.heap.size W1 W) => coNoNum_any W AK p cK (ks.take p) (fun W2 hb2 i hi => by
          have hb3 : Below W1.heap.size W1 W2 := to_ hb hb2
          obtain ⟨ad, e, hlt, hc2⟩ := hcell W2 hb3 i (by omega)
          refine ⟨ad, e, Nat.lt_of_lt_of_le hlt hb.size, ?_⟩
          rw [hc2]
          congr 2
          unfold el
          rw [List.getD_eq_getElem?_getD, List.getD_eq_getElem?_getD, List.getElem?_take, if_pos hi]) (by rw [List.length_take]; omega) (by omega))
        generalize (ks.take p).any nnB = b2 at HC2 ⊢
        generalize ks.any nkB = b1 at HC1 ⊢
        generalize frB pd 4096 = b3 at HFR ⊢
        have g1 : (p : Int) ≤ (cK : Int) := by omega
        have g2 : (p : Int) ≤ (nK : Int) := by omega
        have g3 : (0 : Int) ≤ (p : Int) := by omega
        have g4 : p ≤ cK := by omega
        clear hcell hIW hk hT h1 h2 h1' hl hc hr hsz1
        cases b1 with
        | true =>
          rw [Bool.true_or, if_pos rfl]
          go_enter Tryz.func58, Tryz.ntmps58
          go_wp2_with (first
            | (go_at_call 126; refine HIS.out.mono ?_; rintro e w9 ⟨rfl, rfl⟩)
            | (go_at_call 127; refine HPA.out.mono ?_; rintro e w9 ⟨rfl, rfl⟩)
            | (go_at_call 128; first
              | (refine HC1.out.mono ?_; rintro e w8 ⟨rfl, b8⟩; have HB8 := Lib.hid b8; clear c0 c1 c2 c3 c4 c5 c6 c7 c8; obtain ⟨c0, c1, c2, c3, c4, c5, c6, c7, c8⟩ := blk9 (HX.out w8 b8); clear b8)
              | (refine (HC2.out _ HB8.out).mono ?_; rintro e w7 ⟨rfl, b7⟩; have HB7 := Lib.hid (to_ HB8.out b7); clear c0 c1 c2 c3 c4 c5 c6 c7 c8; obtain ⟨c0, c1, c2, c3, c4, c5, c6, c7, c8⟩ := blk9 (HX.out w7 HB7.out); clear b7))
            | (go_at_call 131; refine (HFR.out _).mono ?_; rintro e w9 ⟨rfl, rfl⟩))
          go_ret
          exact ⟨rfl, to_ HB0.out HB8.out⟩
        | false =>
          rw [Bool.false_or]
          cases b2 with
          | true =>
            rw [if_pos rfl]
            go_enter Tryz.func58, Tryz.ntmps58
            go_wp2_with (first
              | (go_at_call 126; refine HIS.out.mono ?_; rintro e w9 ⟨rfl, rfl⟩)
              | (go_at_call 127; refine HPA.out.mono ?_; rintro e w9 ⟨rfl, rfl⟩)
              | (go_at_call 128; first
                | (refine HC1.out.mono ?_; rintro e w8 ⟨rfl, b8⟩; have HB8 := Lib.hid b8; clear c0 c1 c2 c3 c4 c5 c6 c7 c8; obtain ⟨c0, c1, c2, c3, c4, c5, c6, c7, c8⟩ := blk9 (HX.out w8 b8); clear b8)
                | (refine (HC2.out _ HB8.out).mono ?_; rintro e w7 ⟨rfl, b7⟩; have HB7 := Lib.hid (to_ HB8.out b7); clear c0 c1 c2 c3 c4 c5 c6 c7 c8; obtain ⟨c0, c1, c2, c3, c4, c5, c6, c7, c8⟩ := blk9 (HX.out w7 HB7.out); clear b7))
              | (go_at_call 131; refine (HFR.out _).mono ?_; rintro e w9 ⟨rfl, rfl⟩))
            go_ret
            exact ⟨rfl, to_ HB0.out HB7.out⟩
          | false =>
            rw [if_neg (by simp)]
            cases b3 with
            | true =>
              rw [if_pos rfl]
              go_enter Tryz.func58, Tryz.ntmps58
              go_wp2_with (first
                | (go_at_call 126; refine HIS.out.mono ?_; rintro e w9 ⟨rfl, rfl⟩)
                | (go_at_call 127; refine HPA.out.mono ?_; rintro e w9 ⟨rfl, rfl⟩)
                | (go_at_call 128; first
                  | (refine HC1.out.mono ?_; rintro e w8 ⟨rfl, b8⟩; have HB8 := Lib.hid b8; clear c0 c1 c2 c3 c4 c5 c6 c7 c8; obtain ⟨c0, c1, c2, c3, c4, c5, c6, c7, c8⟩ := blk9 (HX.out w8 b8); clear b8)
                  | (refine (HC2.out _ HB8.out).mono ?_; rintro e w7 ⟨rfl, b7⟩; have HB7 := Lib.hid (to_ HB8.out b7); clear c0 c1 c2 c3 c4 c5 c6 c7 c8; obtain ⟨c0, c1, c2, c3, c4, c5, c6, c7, c8⟩ := blk9 (HX.out w7 HB7.out); clear b7))
                | (go_at_call 131; refine (HFR.out _).mono ?_; rintro e w9 ⟨rfl, rfl⟩))
              go_ret
              exact ⟨rfl, to_ HB0.out HB7.out⟩
            | false =>
              rw [if_neg (by simp)]
              go_enter Tryz.func58, Tryz.ntmps58
              go_wp2_with (first
                | (go_at_call 126; refine HIS.out.mono ?_; rintro e w9 ⟨rfl, rfl⟩)
                | (go_at_call 127; refine HPA.out.mono ?_; rintro e w9 ⟨rfl, rfl⟩)
                | (go_at_call 128; first
                  | (refine HC1.out.mono ?_; rintro e w8 ⟨rfl, b8⟩; have HB8 := Lib.hid b8; clear c0 c1 c2 c3 c4 c5 c6 c7 c8; obtain ⟨c0, c1, c2, c3, c4, c5, c6, c7, c8⟩ := blk9 (HX.out w8 b8); clear b8)
                  | (refine (HC2.out _ HB8.out).mono ?_; rintro e w7 ⟨rfl, b7⟩; have HB7 := Lib.hid (to_ HB8.out b7); clear c0 c1 c2 c3 c4 c5 c6 c7 c8; obtain ⟨c0, c1, c2, c3, c4, c5, c6, c7, c8⟩ := blk9 (HX.out w7 HB7.out); clear b7))
                | (go_at_call 131; refine (HFR.out _).mono ?_; rintro e w9 ⟨rfl, rfl⟩))
              go_ret
              exact ⟨rfl, to_ HB0.out HB7.out⟩
end Go.Proofs.YtbknmapkdjmcjaaGreatDoor.By

namespace Go.Proofs.YtbknmapkdjmcjaaGreatDoor.By
open Go.RowKit
open Mem Gm Rf
set_option linter.unusedSimpArgs false
set_option linter.unusedVariables false

theorem codL_at {l : List In5} {k : Nat} {x : In5} (h : l[k]? = some x) : codL (l.drop k) = if chV x.1 x.2.1 x.2.2.1 x.2.2.2.1 x.2.2.2.2 ≠ 0 then chV x.1 x.2.1 x.2.2.1 x.2.2.2.1 x.2.2.2.2 else if ownV x.1 = false then 8 else codL (l.drop (k + 1)) := by
  have hk := (List.getElem?_eq_some_iff.1 h).1
  have hx := (List.getElem?_eq_some_iff.1 h).2
  rw [List.drop_eq_getElem_cons hk, hx]
  rfl

set_option maxRecDepth 100000 in
set_option maxHeartbeats 4000000 in
theorem chkCode_any (w : World) (AK AL AC AR : Option Addr) (nK cK nL cL nC cC nR cR : Nat) (x : Fn) (hF : FnW w AK nK cK AL nL cL AC nC cC AR nR cR x) (hT : TX3 w) (hnn : nK ≤ 1000000 ∧ nL ≤ 1000000 ∧ nC ≤ 1000000 ∧ nR ≤ 1000000) :
    Calls Tryz.prog 59 #[.agg #[.int .i64 x.k, .slice AK nK cK, .int .i64 x.pd, .bool x.ns, .int .i64 x.f, .int .i64 x.t, .slice AL nL cL, .slice AC nC cC, .slice AR nR cR]] w (CAns w (cdV x)) := by
  obtain ⟨k0, ks, pd, ns, f0, t0, ls, cs, rs⟩ := x
  obtain ⟨hk, hkl, hl, hc, hr⟩ := hF
  dsimp only at hk hkl hl hc hr ⊢
  have hll : ls.length = nL := hl.1
  have hcl : cs.length = nC := hc.1
  have hrl : rs.length = nR := hr.1
  obtain ⟨W1, hW1⟩ : ∃ W1, w.alloc (.cells #[.int .i64 k0, .slice AK nK cK, .int .i64 pd, .bool ns, .int .i64 f0, .int .i64 t0, .slice AL nL cL, .slice AC nC cC, .slice AR nR cR] 27) = W1 := ⟨_, rfl⟩
  have hsz1 : w.heap.size < W1.heap.size := by rw [← hW1]; simp
  have HB0 := Lib.hid (show Below w.heap.size w W1 by rw [← hW1]; exact alloc_ _ _)
  have HX := Lib.hid (show ∀ W, Below W1.heap.size W1 W → Blk W w.heap.size 27 #[.int .i64 k0, .slice AK nK cK, .int .i64 pd, .bool ns, .int .i64 f0, .int .i64 t0, .slice AL nL cL, .slice AC nC cC, .slice AR nR cR] from fun W hb => (hb.block _ hsz1).trans (by rw [← hW1]; exact Blk.new w _ _))
  obtain ⟨c0, c1, c2, c3, c4, c5, c6, c7, c8⟩ := blk9 (HX.out W1 (Below.refl _ _))
  have HFC := Lib.hid (fcheck_any W1 AC nC cC _ _ (Cd.of_in (hc.on HB0.out)))
  have HTX := Lib.hid (hT.on HB0.out)
  have HIC := Lib.hid (fun W (hb : Below W1.heap.size W1 W) (x : In5) => check_any x.1 x.2.1 x.2.2.1 x.2.2.2.1 x.2.2.2.2 W ((HTX.out.on hb).1))
  have HOW := Lib.hid (fun z W => own_any z W)
  have HCC := Lib.hid (fun W (hb : Below W1.heap.size W1 W) i (hi : i < nC) => (hc.on (to_ HB0.out hb)).at_ hi)
  have HS := Lib.hid (show ∀ k, k < nC → cs[k]? = some (inAt cs k) from fun k hk => inAt_some (by omega))
  have HLN := Lib.hid hcl
  unfold cdV flowV
  dsimp only
  rw [hcl]
  generalize chk nC (gph nC (fun i => (inAt cs i).1) (fun i => (inAt cs i).2.2.2.2)) = y at HFC ⊢
  have hb4 := hnn.2.2.1
  clear hk hkl hl hc hr hT hll hcl hrl hsz1
  by_cases hy : y = 0
  · subst hy
    rw [if_neg (by simp)]
    go_enter Tryz.func59, Tryz.ntmps59
    go_wp2_with (go_at_call 132; refine HFC.out.mono ?_; rintro e w2 ⟨rfl, hb2⟩; have HB2 := Lib.hid hb2; clear c0 c1 c2 c3 c4 c5 c6 c7 c8; obtain ⟨c0, c1, c2, c3, c4, c5, c6, c7, c8⟩ := blk9 (HX.out w2 hb2); clear hb2)
    clear hW1
    go_loopw [16] (fun i wr => ∃ k : Nat, k ≤ nC ∧ i = .int .i64 (k : Int) ∧ Hid (codL cs = codL (cs.drop k)) ∧ Below W1.heap.size W1 wr) (fun i _ => nC - (intOf i).toNat)
    case atStart => exact ⟨0, Nat.zero_le _, rfl, Lib.hid (by rw [List.drop_zero]), HB2.out⟩
    case round =>
      obtain ⟨k, hk, rfl, HO, hbel⟩ := hrel
      have HBE := Lib.hid hbel
      clear c0 c1 c2 c3 c4 c5 c6 c7 c8
      by_cases hlt : k < nC
      · have hkI : (k : Int) < (nC : Int) := by omega
        obtain ⟨ad, rfl, _, a0, a1, a2, a3, a4⟩ := HCC.out wr hbel k hlt
        have HK := Lib.hid (HO.out.trans (codL_at (HS.out k hlt)))
        generalize inAt cs k = x at HK a0 a1 a2 a3 a4
        obtain ⟨Wx, hWx⟩ : ∃ Wx, wr.alloc (.cells #[.int .i64 x.1, .int .i64 x.2.1, .int .i64 x.2.2.1, .int .i64 x.2.2.2.1, .int .i64 x.2.2.2.2] 94) = Wx := ⟨_, rfl⟩
        have HBX := Lib.hid (show Below wr.heap.size wr Wx from by rw [← hWx]; exact alloc_ _ _)
        have hbk : Blk Wx wr.heap.size 94 #[.int .i64 x.1, .int .i64 x.2.1, .int .i64 x.2.2.1, .int .i64 x.2.2.2.1, .int .i64 x.2.2.2.2] := by rw [← hWx]; exact Blk.new wr _ _
        have HBK := Lib.hid (show ∀ W, Below Wx.heap.size Wx W → Blk W wr.heap.size 94 #[.int .i64 x.1, .int .i64 x.2.1, .int .i64 x.2.2.1, .int .i64 x.2.2.2.1, .int .i64 x.2.2.2.2] from fun W hb => (hb.block _ hbk.lt).trans hbk)
        have HIX := Lib.hid (HIC.out Wx (to_ HBE.out HBX.out) x)
        have HOX := Lib.hid (fun W => HOW.out x.1 W)
        have d0 := hbk.cell 0
        have d1 := hbk.cell 1
        have d2 := hbk.cell 2
        have d3 := hbk.cell 3
        have d4 := hbk.cell 4
        clear hbel hbk
        generalize chV x.1 x.2.1 x.2.2.1 x.2.2.2.1 x.2.2.2.2 = z at HK HIX
        by_cases hz : z = 0
        · subst hz
          rw [if_neg (by simp)] at HK
          cases ho : ownV x.1 with
          | false =>
            rw [ho, if_pos rfl] at HK
            rw [ho] at HOX
            clear ho
            go_wp2_with (first
              | (go_at_call 133; refine HIX.out.mono ?_; rintro e w9 ⟨rfl, b9⟩; have HB9 := Lib.hid b9; clear d0; have d0 := (HBK.out w9 b9).cell 0; clear b9)
              | (go_at_call 134; refine (HOX.out _).mono ?_; rintro e w8 ⟨rfl, rfl⟩))
            go_ret
            exact ⟨ret_int (by rw [HK.out]), to_ HB0.out (to_ (to_ HBE.out HBX.out) HB9.out)⟩
          | true =>
            rw [ho, if_neg (by simp)] at HK
            rw [ho] at HOX
            clear ho
            go_wp2_with (first
              | (go_at_call 133; refine HIX.out.mono ?_; rintro e w9 ⟨rfl, b9⟩; have HB9 := Lib.hid b9; clear d0; have d0 := (HBK.out w9 b9).cell 0; clear b9)
              | (go_at_call 134; refine (HOX.out _).mono ?_; rintro e w8 ⟨rfl, rfl⟩))
            go_roundw
            case rel => exact ⟨k + 1, by omega, by go_num, HK, to_ (to_ HBE.out HBX.out) HB9.out⟩
            case measure => simp [intOf]; omega
        · have hz2 : (z == 0) = false := by simp [hz]
          rw [if_pos hz] at HK
          clear hz
          go_wp2_with (go_at_call 133; refine HIX.out.mono ?_; rintro e w9 ⟨rfl, b9⟩; have HB9 := Lib.hid b9; clear b9)
          go_ret
          exact ⟨ret_int (by rw [HK.out]), to_ HB0.out (to_ (to_ HBE.out HBX.out) HB9.out)⟩
      · obtain rfl : k = nC := by omega
        have HV := Lib.hid (show codL cs = 0 from by rw [HO.out, List.drop_eq_nil_of_le (by have := HLN.out; omega)]; rfl)
        clear hbel
        go_wp2_with fail
        go_ret
        exact ⟨ret_int (by rw [HV.out]), to_ HB0.out HBE.out⟩
  · have hy2 : (y == 0) = false := by simp [hy]
    rw [if_pos hy]
    clear hy
    go_enter Tryz.func59, Tryz.ntmps59
    go_wp2_with (go_at_call 132; refine HFC.out.mono ?_; rintro e w2 ⟨rfl, hb2⟩; have HB2 := Lib.hid hb2; clear hb2)
    go_ret
    exact ⟨rfl, to_ HB0.out HB2.out⟩

set_option maxRecDepth 100000 in
set_option maxHeartbeats 4000000 in
theorem chkRange_any (w : World) (AK AL AC AR : Option Addr) (nK cK nL cL nC cC nR cR : Nat) (x : Fn) (hF : FnW w AK nK cK AL nL cL AC nC cC AR nR cR x) (hT : TX3 w) (hnn : nK ≤ 1000000 ∧ nL ≤ 1000000 ∧ nC ≤ 1000000 ∧ nR ≤ 1000000) :
    Calls Tryz.prog 60 #[.agg #[.int .i64 x.k, .slice AK nK cK, .int .i64 x.pd, .bool x.ns, .int .i64 x.f, .int .i64 x.t, .slice AL nL cL, .slice AC nC cC, .slice AR nR cR]] w (CAns w (rgV x)) := by
  obtain ⟨k0, ks, pd, ns, f0, t0, ls, cs, rs⟩ := x
  obtain ⟨hk, hkl, hl, hc, hr⟩ := hF
  dsimp only at hk hkl hl hc hr ⊢
  have hll : ls.length = nL := hl.1
  have hcl : cs.length = nC := hc.1
  have hrl : rs.length = nR := hr.1
  obtain ⟨W1, hW1⟩ : ∃ W1, w.alloc (.cells #[.int .i64 k0, .slice AK nK cK, .int .i64 pd, .bool ns, .int .i64 f0, .int .i64 t0, .slice AL nL cL, .slice AC nC cC, .slice AR nR cR] 27) = W1 := ⟨_, rfl⟩
  have hsz1 : w.heap.size < W1.heap.size := by rw [← hW1]; simp
  have HB0 := Lib.hid (show Below w.heap.size w W1 by rw [← hW1]; exact alloc_ _ _)
  have HX := Lib.hid (show ∀ W, Below W1.heap.size W1 W → Blk W w.heap.size 27 #[.int .i64 k0, .slice AK nK cK, .int .i64 pd, .bool ns, .int .i64 f0, .int .i64 t0, .slice AL nL cL, .slice AC nC cC, .slice AR nR cR] from fun W hb => (hb.block _ hsz1).trans (by rw [← hW1]; exact Blk.new w _ _))
  obtain ⟨c0, c1, c2, c3, c4, c5, c6, c7, c8⟩ := blk9 (HX.out W1 (Below.refl _ _))
  have HS4 := Lib.hid (fun (W : World) => sorted4_any (W.alloc (.cells #[.int .i64 0, .int .i64 f0, .int .i64 t0, .int .i64 (nC : Int)] 3)) W.heap.size 3 f0 t0 nC (Blk.new W _ _))
  unfold rgV
  dsimp only
  rw [hcl]
  generalize s4B f0 t0 nC = b at HS4 ⊢
  clear hk hkl hl hc hr hT hll hcl hrl hsz1
  cases b with
  | true =>
    rw [if_pos rfl]
    go_enter Tryz.func60, Tryz.ntmps60
    go_wp2_with (go_at_call 135; refine (HS4.out _).mono ?_; rintro e w2 ⟨rfl, hb2⟩; have HB2 := Lib.hid (to_ (alloc_ W1 _) hb2); clear hb2)
    go_ret
    exact ⟨rfl, to_ HB0.out HB2.out⟩
  | false =>
    rw [if_neg (by simp)]
    go_enter Tryz.func60, Tryz.ntmps60
    go_wp2_with (go_at_call 135; refine (HS4.out _).mono ?_; rintro e w2 ⟨rfl, hb2⟩; have HB2 := Lib.hid (to_ (alloc_ W1 _) hb2); clear hb2)
    go_ret
    exact ⟨rfl, to_ HB0.out HB2.out⟩

set_option maxRecDepth 100000 in
set_option maxHeartbeats 4000000 in
theorem chkLines_any (w : World) (AK AL AC AR : Option Addr) (nK cK nL cL nC cC nR cR : Nat) (x : Fn) (hF : FnW w AK nK cK AL nL cL AC nC cC AR nR cR x) (hT : TX3 w) (hnn : nK ≤ 1000000 ∧ nL ≤ 1000000 ∧ nC ≤ 1000000 ∧ nR ≤ 1000000) :
    Calls Tryz.prog 61 #[.agg #[.int .i64 x.k, .slice AK nK cK, .int .i64 x.pd, .bool x.ns, .int .i64 x.f, .int .i64 x.t, .slice AL nL cL, .slice AC nC cC, .slice AR nR cR]] w (CAns w (lnV9 x)) := by
  obtain ⟨k0, ks, pd, ns, f0, t0, ls, cs, rs⟩ := x
  obtain ⟨hk, hkl, hl, hc, hr⟩ := hF
  dsimp only at hk hkl hl hc hr ⊢
  have hll : ls.length = nL := hl.1
  have hcl : cs.length = nC := hc.1
  have hrl : rs.length = nR := hr.1
  obtain ⟨W1, hW1⟩ : ∃ W1, w.alloc (.cells #[.int .i64 k0, .slice AK nK cK, .int .i64 pd, .bool ns, .int .i64 f0, .int .i64 t0, .slice AL nL cL, .slice AC nC cC, .slice AR nR cR] 27) = W1 := ⟨_, rfl⟩
  have hsz1 : w.heap.size < W1.heap.size := by rw [← hW1]; simp
  have HB0 := Lib.hid (show Below w.heap.size w W1 by rw [← hW1]; exact alloc_ _ _)
  have HX := Lib.hid (show ∀ W, Below W1.heap.size W1 W → Blk W w.heap.size 27 #[.int .i64 k0, .slice AK nK cK, .int .i64 pd, .bool ns, .int .i64 f0, .int .i64 t0, .slice AL nL cL, .slice AC nC cC, .slice AR nR cR] from fun W hb => (hb.block _ hsz1).trans (by rw [← hW1]; exact Blk.new w _ _))
  obtain ⟨c0, c1, c2, c3, c4, c5, c6, c7, c8⟩ := blk9 (HX.out W1 (Below.refl _ _))
  have HRI := Lib.hid (riseL_any W1 AL nL cL ls (nC : Int) (hl.on HB0.out) hnn.2.1)
  have HCO := Lib.hid (fun W (hb : Below W1.heap.size W1 W) => coNoLine_any W AL nL cL ls (hl.on (to_ HB0.out hb)) hll hnn.2.1)
  have HC0 := Lib.hid (fun (hi : 0 < nL) => (hl.on HB0.out).at_ hi)
  have HF0 := Lib.hid (show (nL = 0 → f0B ls = true) ∧ (0 < nL → f0B ls = decide ((lnAt ls 0).1 = 0)) from by
    cases ls with
    | nil => exact ⟨fun _ => rfl, fun h => by simp at hll; omega⟩
    | cons a r => exact ⟨fun h => by simp at hll; omega, fun _ => rfl⟩)
  unfold lnV9
  dsimp only
  rw [hll, hcl]
  generalize risB (nC : Int) (-1) (ls.map fun y => y.1) = b1 at HRI ⊢
  generalize ls.any lnB9 = b2 at HCO ⊢
  clear hk hkl hl hc hr hT hcl hrl hsz1 hll
  by_cases h1 : 16 < nL
  · have h1I : (16 : Int) < (nL : Int) := by omega
    rw [if_pos h1]
    go_enter Tryz.func61, Tryz.ntmps61
    go_wp2_with fail
    go_ret
    exact ⟨rfl, HB0.out⟩
  · have h1I : ¬ (16 : Int) < (nL : Int) := by omega
    rw [if_neg h1]
    by_cases h2 : 0 < nL
    · have h2I : (0 : Int) < (nL : Int) := by omega
      obtain ⟨ad, rfl, _, a0, _⟩ := HC0.out h2
      have hf := HF0.out.2 h2
      generalize (lnAt ls 0).1 = y at a0 hf
      have a1 : W1.cell? ad = some (.int .i64 y) := by have h9 := a0; rw [Nat.zero_mul] at h9; exact h9
      rw [hf]
      by_cases hy : y = 0
      · subst hy
        rw [decide_eq_true rfl]
        clear hf
        cases b1 with
        | false =>
          rw [Bool.true_and, Bool.false_and, if_neg (by simp)]
          go_enter Tryz.func61, Tryz.ntmps61
          go_wp2_with (first
            | (go_at_call 138; refine HRI.out.mono ?_; rintro e w8 ⟨rfl, b8⟩; have HB8 := Lib.hid b8; clear c0 c1 c2 c3 c4 c5 c6 c7 c8; obtain ⟨c0, c1, c2, c3, c4, c5, c6, c7, c8⟩ := blk9 (HX.out w8 b8); clear b8)
            | (go_at_call 139; refine (HCO.out _ HB8.out).mono ?_; rintro e w7 ⟨rfl, b7⟩; have HB7 := Lib.hid (to_ HB8.out b7); clear b7))
          go_ret
          exact ⟨rfl, to_ HB0.out HB8.out⟩
        | true =>
          cases b2 with
          | true =>
            rw [Bool.true_and, Bool.true_and, Bool.not_true, if_neg (by simp)]
            go_enter Tryz.func61, Tryz.ntmps61
            go_wp2_with (first
              | (go_at_call 138; refine HRI.out.mono ?_; rintro e w8 ⟨rfl, b8⟩; have HB8 := Lib.hid b8; clear c0 c1 c2 c3 c4 c5 c6 c7 c8; obtain ⟨c0, c1, c2, c3, c4, c5, c6, c7, c8⟩ := blk9 (HX.out w8 b8); clear b8)
              | (go_at_call 139; refine (HCO.out _ HB8.out).mono ?_; rintro e w7 ⟨rfl, b7⟩; have HB7 := Lib.hid (to_ HB8.out b7); clear b7))
            go_ret
            exact ⟨rfl, to_ HB0.out HB7.out⟩
          | false =>
            rw [Bool.true_and, Bool.true_and, Bool.not_false, if_pos rfl]
            go_enter Tryz.func61, Tryz.ntmps61
            go_wp2_with (first
              | (go_at_call 138; refine HRI.out.mono ?_; rintro e w8 ⟨rfl, b8⟩; have HB8 := Lib.hid b8; clear c0 c1 c2 c3 c4 c5 c6 c7 c8; obtain ⟨c0, c1, c2, c3, c4, c5, c6, c7, c8⟩ := blk9 (HX.out w8 b8); clear b8)
              | (go_at_call 139; refine (HCO.out _ HB8.out).mono ?_; rintro e w7 ⟨rfl, b7⟩; have HB7 := Lib.hid (to_ HB8.out b7); clear b7))
            go_ret
            exact ⟨rfl, to_ HB0.out HB7.out⟩
      · have hy2 : (y == 0) = false := by simp [hy]
        rw [decide_eq_false hy, Bool.false_and, if_neg (by simp)]
        clear hf
        go_enter Tryz.func61, Tryz.ntmps61
        go_wp2_with fail
        go_ret
        exact ⟨rfl, HB0.out⟩
    · have h2I : ¬ (0 : Int) < (nL : Int) := by omega
      rw [HF0.out.1 (by omega)]
      cases b1 with
      | false =>
        rw [Bool.true_and, Bool.false_and, if_neg (by simp)]
        go_enter Tryz.func61, Tryz.ntmps61
        go_wp2_with (first
          | (go_at_call 138; refine HRI.out.mono ?_; rintro e w8 ⟨rfl, b8⟩; have HB8 := Lib.hid b8; clear c0 c1 c2 c3 c4 c5 c6 c7 c8; obtain ⟨c0, c1, c2, c3, c4, c5, c6, c7, c8⟩ := blk9 (HX.out w8 b8); clear b8)
          | (go_at_call 139; refine (HCO.out _ HB8.out).mono ?_; rintro e w7 ⟨rfl, b7⟩; have HB7 := Lib.hid (to_ HB8.out b7); clear b7))
        go_ret
        exact ⟨rfl, to_ HB0.out HB8.out⟩
      | true =>
        cases b2 with
        | true =>
          rw [Bool.true_and, Bool.true_and, Bool.not_true, if_neg (by simp)]
          go_enter Tryz.func61, Tryz.ntmps61
          go_wp2_with (first
            | (go_at_call 138; refine HRI.out.mono ?_; rintro e w8 ⟨rfl, b8⟩; have HB8 := Lib.hid b8; clear c0 c1 c2 c3 c4 c5 c6 c7 c8; obtain ⟨c0, c1, c2, c3, c4, c5, c6, c7, c8⟩ := blk9 (HX.out w8 b8); clear b8)
            | (go_at_call 139; refine (HCO.out _ HB8.out).mono ?_; rintro e w7 ⟨rfl, b7⟩; have HB7 := Lib.hid (to_ HB8.out b7); clear b7))
          go_ret
          exact ⟨rfl, to_ HB0.out HB7.out⟩
        | false =>
          rw [Bool.true_and, Bool.true_and, Bool.not_false, if_pos rfl]
          go_enter Tryz.func61, Tryz.ntmps61
          go_wp2_with (first
            | (go_at_call 138; refine HRI.out.mono ?_; rintro e w8 ⟨rfl, b8⟩; have HB8 := Lib.hid b8; clear c0 c1 c2 c3 c4 c5 c6 c7 c8; obtain ⟨c0, c1, c2, c3, c4, c5, c6, c7, c8⟩ := blk9 (HX.out w8 b8); clear b8)
            | (go_at_call 139; refine (HCO.out _ HB8.out).mono ?_; rintro e w7 ⟨rfl, b7⟩; have HB7 := Lib.hid (to_ HB8.out b7); clear b7))
          go_ret
          exact ⟨rfl, to_ HB0.out HB7.out⟩

set_option maxRecDepth 100000 in
set_option maxHeartbeats 4000000 in
theorem chkRefs_any (w : World) (AK AL AC AR : Option Addr) (nK cK nL cL nC cC nR cR : Nat) (x : Fn) (hF : FnW w AK nK cK AL nL cL AC nC cC AR nR cR x) (hT : TX3 w) (hnn : nK ≤ 1000000 ∧ nL ≤ 1000000 ∧ nC ≤ 1000000 ∧ nR ≤ 1000000) :
    Calls Tryz.prog 62 #[.agg #[.int .i64 x.k, .slice AK nK cK, .int .i64 x.pd, .bool x.ns, .int .i64 x.f, .int .i64 x.t, .slice AL nL cL, .slice AC nC cC, .slice AR nR cR]] w (CAns w (rfV9 x)) := by
  obtain ⟨k0, ks, pd, ns, f0, t0, ls, cs, rs⟩ := x
  obtain ⟨hk, hkl, hl, hc, hr⟩ := hF
  dsimp only at hk hkl hl hc hr ⊢
  have hll : ls.length = nL := hl.1
  have hcl : cs.length = nC := hc.1
  have hrl : rs.length = nR := hr.1
  obtain ⟨W1, hW1⟩ : ∃ W1, w.alloc (.cells #[.int .i64 k0, .slice AK nK cK, .int .i64 pd, .bool ns, .int .i64 f0, .int .i64 t0, .slice AL nL cL, .slice AC nC cC, .slice AR nR cR] 27) = W1 := ⟨_, rfl⟩
  have hsz1 : w.heap.size < W1.heap.size := by rw [← hW1]; simp
  have HB0 := Lib.hid (show Below w.heap.size w W1 by rw [← hW1]; exact alloc_ _ _)
  have HX := Lib.hid (show ∀ W, Below W1.heap.size W1 W → Blk W w.heap.size 27 #[.int .i64 k0, .slice AK nK cK, .int .i64 pd, .bool ns, .int .i64 f0, .int .i64 t0, .slice AL nL cL, .slice AC nC cC, .slice AR nR cR] from fun W hb => (hb.block _ hsz1).trans (by rw [← hW1]; exact Blk.new w _ _))
  obtain ⟨c0, c1, c2, c3, c4, c5, c6, c7, c8⟩ := blk9 (HX.out W1 (Below.refl _ _))
  have HRI := Lib.hid (riseR_any W1 AR nR cR rs (nC : Int) (hr.on HB0.out) hnn.2.2.2)
  have HCO := Lib.hid (fun W (hb : Below W1.heap.size W1 W) => coNoSym_any W AR nR cR rs (hr.on (to_ HB0.out hb)) hrl hnn.2.2.2)
  unfold rfV9
  dsimp only
  rw [hcl]
  generalize risB (nC : Int) (-1) (rs.map fun y => y.1) = b1 at HRI ⊢
  generalize rs.any rfB9 = b2 at HCO ⊢
  clear hk hkl hl hc hr hT hcl hrl hsz1 hll
  cases b1 with
  | false =>
    rw [Bool.false_and, if_neg (by simp)]
    go_enter Tryz.func62, Tryz.ntmps62
    go_wp2_with (first
      | (go_at_call 142; refine HRI.out.mono ?_; rintro e w8 ⟨rfl, b8⟩; have HB8 := Lib.hid b8; clear c0 c1 c2 c3 c4 c5 c6 c7 c8; obtain ⟨c0, c1, c2, c3, c4, c5, c6, c7, c8⟩ := blk9 (HX.out w8 b8); clear b8)
      | (go_at_call 143; refine (HCO.out _ HB8.out).mono ?_; rintro e w7 ⟨rfl, b7⟩; have HB7 := Lib.hid (to_ HB8.out b7); clear b7))
    go_ret
    exact ⟨rfl, to_ HB0.out HB8.out⟩
  | true =>
    cases b2 with
    | true =>
      rw [Bool.true_and, Bool.not_true, if_neg (by simp)]
      go_enter Tryz.func62, Tryz.ntmps62
      go_wp2_with (first
        | (go_at_call 142; refine HRI.out.mono ?_; rintro e w8 ⟨rfl, b8⟩; have HB8 := Lib.hid b8; clear c0 c1 c2 c3 c4 c5 c6 c7 c8; obtain ⟨c0, c1, c2, c3, c4, c5, c6, c7, c8⟩ := blk9 (HX.out w8 b8); clear b8)
        | (go_at_call 143; refine (HCO.out _ HB8.out).mono ?_; rintro e w7 ⟨rfl, b7⟩; have HB7 := Lib.hid (to_ HB8.out b7); clear b7))
      go_ret
      exact ⟨rfl, to_ HB0.out HB7.out⟩
    | false =>
      rw [Bool.true_and, Bool.not_false, if_pos rfl]
      go_enter Tryz.func62, Tryz.ntmps62
      go_wp2_with (first
        | (go_at_call 142; refine HRI.out.mono ?_; rintro e w8 ⟨rfl, b8⟩; have HB8 := Lib.hid b8; clear c0 c1 c2 c3 c4 c5 c6 c7 c8; obtain ⟨c0, c1, c2, c3, c4, c5, c6, c7, c8⟩ := blk9 (HX.out w8 b8); clear b8)
        | (go_at_call 143; refine (HCO.out _ HB8.out).mono ?_; rintro e w7 ⟨rfl, b7⟩; have HB7 := Lib.hid (to_ HB8.out b7); clear b7))
      go_ret
      exact ⟨rfl, to_ HB0.out HB7.out⟩
end Go.Proofs.YtbknmapkdjmcjaaGreatDoor.By
