/-
  WALKS of layer 9: Join, Decimal.
-/
import Derived.Test.YtnplhpbbdgnmiaaDoorLf
import Derived.Lib.AppendIntMem
namespace Go.Proofs.YtnplhpbbdgnmiaaDoor.Ln
open Go.RowKit
open Mem Go.Lib

/-- Texts with a blank between two. -/
def joinB (l : List ByteArray) : ByteArray := ⟨(Lib.join (l.map (·.data.toList)) [32]).toArray⟩

theorem ba_append (a b : ByteArray) : (a ++ b).data.toList = a.data.toList ++ b.data.toList := by
  rw [ByteArray.data_append, Array.toList_append]
theorem ba_ext {a b : ByteArray} (h : a.data.toList = b.data.toList) : a = b := by
  obtain ⟨⟨x⟩⟩ := a; obtain ⟨⟨y⟩⟩ := b
  simp only at h
  rw [h]
theorem inter_snoc (sep : List UInt8) : ∀ (l : List (List UInt8)) (x : List UInt8), l ≠ [] → sep.intercalate (l ++ [x]) = sep.intercalate l ++ sep ++ x
  | [], _, h => absurd rfl h
  | [a], x, _ => by simp [List.intercalate, List.intersperse]
  | a :: b :: l, x, _ => by
    have ih := inter_snoc sep (b :: l) x (by simp)
    simp only [List.intercalate, List.cons_append, List.intersperse] at ih ⊢
    cases l with
    | nil => simp [List.intersperse] at ih ⊢
    | cons c l =>
      simp only [List.cons_append, List.intersperse, List.flatten_cons] at ih ⊢
      simp only [ih, List.append_assoc]

theorem joinB_nil : joinB [] = ⟨#[]⟩ := rfl
theorem joinB_one (x : ByteArray) : joinB [x] = ⟨#[]⟩ ++ x := by
  apply ba_ext
  rw [ba_append]
  simp [joinB, Lib.join, List.intercalate]
theorem joinB_next (l : List ByteArray) (x : ByteArray) (h : l ≠ []) : joinB (l ++ [x]) = joinB l ++ ⟨#[32]⟩ ++ x := by
  apply ba_ext
  rw [ba_append, ba_append]
  show Lib.join ((l ++ [x]).map (·.data.toList)) [32] = Lib.join (l.map (·.data.toList)) [32] ++ [32] ++ x.data.toList
  rw [Lib.join, List.map_append, Lib.join, List.map_singleton, inter_snoc _ _ _ (by simpa using h)]

/-- How long it comes to be. -/
theorem join_len (b : Nat) : ∀ l : List (List UInt8), (∀ x ∈ l, x.length ≤ b) → (Lib.join l [32]).length ≤ l.length * (b + 1)
  | [], _ => by simp [Lib.join, List.intercalate, List.intersperse]
  | [x], h => by
    have := h x (by simp)
    simp [Lib.join, List.intercalate, List.intersperse]; omega
  | x :: y :: l, h => by
    have ih := join_len b (y :: l) fun z hz => h z (List.mem_cons_of_mem _ hz)
    have h1 := h x (by simp)
    simp only [Lib.join, List.intercalate, List.intersperse, List.flatten_cons, List.length_append, List.length_cons, List.length_nil] at ih ⊢
    have e : (l.length + 1 + 1) * (b + 1) = (l.length + 1) * (b + 1) + (b + 1) := Nat.succ_mul _ _
    rw [e]
    omega

/-- Texts that may be worked on: no more than n, of no more than b bytes. -/
def Few (l : List ByteArray) (n b : Nat) : Prop := l.length ≤ n ∧ ∀ x ∈ l, x.size ≤ b

theorem sjoin_any (A : Option Addr) (c : Nat) (l : List ByteArray) (w : World) (h : SlV w w.heap.size (.slice A l.length c) (strs l)) (hf : Few l 1000 1000) :
    Calls Tryd.prog 26 #[.slice A l.length c, .string ⟨#[32]⟩] w fun e w' => e = .returned (.string (joinB l)) ∧ Below w.heap.size w w' := by
  cases l with
  | nil => exact (Tryd.strings_Join_none A c ⟨#[32]⟩ w).mono fun e w' hh => ⟨hh.1, by rw [hh.2]; exact Below.refl _ _⟩
  | cons x l =>
    rcases h.inv with ⟨_, h0, _⟩ | ⟨ad, rfl, _, h2, h3, hr⟩
    · simp at h0
    · have h00 := hr 0 (.string x) rfl
      have hsp := World.cell?_spot h00.2
      have hadd0 : ad.add 0 = ad := by simp [Addr.add]
      rw [hadd0] at hsp
      obtain ⟨bk, o, sp⟩ := ad
      simp only at hsp
      subst hsp
      have hl := join_len 1000 ((x :: l).map (·.data.toList)) fun y hy => by
        obtain ⟨z, hz, rfl⟩ := List.mem_map.1 hy
        have := hf.2 z hz
        obtain ⟨a⟩ := z
        show a.toList.length ≤ 1000
        rw [Array.length_toList]; exact this
      rw [List.length_map] at hl
      have hn := hf.1
      have hmul := Nat.mul_le_mul_right 1001 hn
      exact Tryd.strings_Join bk o c (x :: l) ⟨#[32]⟩ w (fun j y hy => by
        have := (hr j (.string y) (by rw [strs, List.getElem?_map, hy]; rfl)).2
        rwa [Mem.add_plain] at this) (by have := h00.1; exact this) (by omega) h2 (by
        show (Lib.join _ [32]).length ≤ _
        omega)

theorem join_any (A : Option Addr) (c n : Nat) (l : List ByteArray) (w : World) (hn : l.length = n) (h : SlV w w.heap.size (.slice A n c) (strs l)) (hf : Few l 1000 1000) :
    Calls Tryd.prog 13 #[.slice A n c] w fun e w' => e = .returned (.string (joinB l)) ∧ Below w.heap.size w w' := by
  have HJ := Lib.hid (by have := sjoin_any A c l w (by rw [hn]; exact h) hf; rw [hn] at this; exact this)
  clear hn h hf
  go_enter Tryd.func13, Tryd.ntmps13
  go_wp2_with fail
  refine HJ.out.mono ?_
  rintro e w1 ⟨rfl, hb⟩
  have HB := Lib.hid hb
  clear hb
  go_wp2_with fail
  go_ret
  exact ⟨rfl, HB.out⟩

theorem slv_cells {w : World} {B n c : Nat} {A : Option Addr} {l : List ByteArray} (hn : l.length = n) (h : SlV w B (.slice A n c) (strs l)) {j : Nat} (hj : j < n) : ∃ ad x, A = some ad ∧ l[j]? = some x ∧ w.cell? (ad.add j) = some (.string x) := by
  rcases h.inv with ⟨_, h0, _⟩ | ⟨ad, e, _, h2, _, hr⟩
  · omega
  · refine ⟨ad, l[j]'(by omega), e, List.getElem?_eq_getElem (by omega), (hr j _ ?_).2⟩
    rw [strs, List.getElem?_map, List.getElem?_eq_getElem (by omega)]; rfl

theorem ret_str {a b : ByteArray} (h : a = b) : Ending.returned (.string a) = .returned (.string b) := by rw [h]

/-- The table that decimals are made by. -/
def Tb (w : World) : Prop := Lib.TabIs Tryd.prog w "internal/strconv.uint64pow10" .u64 Lib.pow10Tab
def decB (n : Int) : ByteArray := ⟨(Lib.itoa n).toArray⟩

theorem decimal_any (n : Int) (h0 : -9223372036854775808 ≤ n) (h1 : n ≤ 9223372036854775807) (w : World) (ht : Tb w) :
    Calls Tryd.prog 10 #[.int .i64 n] w fun e w' => e = .returned (.string (decB n)) ∧ Below w.heap.size w w' := by
  have HF := Lib.hid (show Calls Tryd.prog 25 #[.int .i64 n, .int .i64 10] w fun e w' => e = .returned (.string (decB n)) ∧ Below w.heap.size w w' from
    (Tryd.strconv_FormatInt_10 n h0 h1 w ht).mono (by rintro e w' ⟨he, k, os, hw⟩; exact ⟨he, by rw [hw]; exact Lib.below_grow _ w (Nat.le_refl _) k os⟩))
  clear h0 h1 ht
  go_enter Tryd.func10, Tryd.ntmps10
  go_wp2_with fail
  refine HF.out.mono ?_
  rintro e w1 ⟨rfl, hb⟩
  have HB := Lib.hid hb
  clear hb
  go_wp2_with fail
  go_ret
  exact ⟨rfl, HB.out⟩
end Go.Proofs.YtnplhpbbdgnmiaaDoor.Ln
