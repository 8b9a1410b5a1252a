/-
  WALKS of layer 9: Join, Decimal.
-/
import Derived.Test.YtnplhpbbdgnmiaaGreatDoorLf
import Derived.Lib.AppendIntMem
namespace Go.Proofs.YtnplhpbbdgnmiaaGreatDoor.Ln
open Go.RowKit
open Mem Go.Lib

/-- Texts with a blank between two. -/
def joinB (l : List ByteArray) : ByteArray := ⟨(Lib.join (l.map (·.data.toList)) [32]).toArray⟩

theorem ba_append (a b : ByteArray) : (a ++ b).data.toList = a.data.toList ++ b.data.toList := by
  rw [ByteArray.data_append, Array.toList_append]
theorem ba_ext {a b : ByteArray} (h : a.data.toList = b.data.toList) : a = b := by
  obtain ⟨⟨x⟩⟩ := a; obtain ⟨⟨y⟩⟩ := b
  simp only at h
  rw [h]
theorem inter_snoc (sep : List UInt8) : ∀ (l : List (List UInt8)) (x : List UInt8), l ≠ [] → sep.intercalate (l ++ [x]) = sep.intercalate l ++ sep ++ x
  | [], _, h => absurd rfl h
  | [a], x, _ => by simp [List.intercalate, List.intersperse]
  | a :: b :: l, x, _ => by
    have ih := inter_snoc sep (b :: l) x (by simp)
    simp only [List.intercalate, List.cons_append, List.intersperse] at ih ⊢
    cases l with
    | nil => simp [List.intersperse] at ih ⊢
    | cons c l =>
      simp only [List.cons_append, List.intersperse, List.flatten_cons] at ih ⊢
      simp only [ih, List.append_assoc]

theorem joinB_nil : joinB [] = ⟨#[]⟩ := rfl
theorem joinB_one (x : ByteArray) : joinB [x] = ⟨#[]⟩ ++ x := by
  apply ba_ext
  rw [ba_append]
  simp [joinB, Lib.join, List.intercalate]
theorem joinB_next (l : List ByteArray) (x : ByteArray) (h : l ≠ []) : joinB (l ++ [x]) = joinB l ++ ⟨#[32]⟩ ++ x := by
  apply ba_ext
  rw [ba_append, ba_append]
  show Lib.join ((l ++ [x]).map (·.data.toList)) [32] = Lib.join (l.map (·.data.toList)) [32] ++ [32] ++ x.data.toList
  rw [Lib.join, List.map_append, Lib.join, List.map_singleton, inter_snoc _ _ _ (by simpa using h)]

/-- How long it comes to be. -/
theorem join_len (b : Nat) : ∀ l : List (List UInt8), (∀ x ∈ l, x.length ≤ b) → (Lib.join l [32]).length ≤ l.length * (b + 1)
  | [], _ => by simp [Lib.join, List.intercalate, List.intersperse]
  | [x], h => by
    have := h x (by simp)
    simp [Lib.join, List.intercalate, List.intersperse]; omega
  | x :: y :: l, h => by
    have ih := join_len b (y :: l) fun z hz => h z (List.mem_cons_of_mem _ hz)
    have h1 := h x (by simp)
    simp only [Lib.join, List.intercalate, List.intersperse, List.flatten_cons, List.length_append, List.length_cons, List.length_nil] at ih ⊢
    have e : (l.length + 1 + 1) * (b + 1) = (l.length + 1) * (b + 1) + (b + 1) := Nat.succ_mul _ _
    rw [e]
    omega

/-- Texts that may be worked on: no more than n, of no more than b bytes. -/
def Few (l : List ByteArray) (n b : Nat) : Prop := l.length ≤ n ∧ ∀ x ∈ l, x.size ≤ b

theorem sjoin_any (A : Option Addr) (c : Nat) (l : List ByteArray) (w : World) (h : SlV w w.heap.size (.slice A l.length c) (strs l)) (hf : Few l 1000 1000) :
    Calls Tryz.prog 26 #[.slice A l.length c, .string ⟨#[32]⟩] w fun e w' => e = .returned (.string (joinB l)) ∧ Below w.heap.size w w' := by
  cases l with
  | nil => exact (Tryz.strings_Join_none A c ⟨#[32]⟩ w).mono fun e w' hh => ⟨hh.1, by rw [hh.2]; exact Below.refl _ _⟩
  | cons x l =>
    rcases h.inv with ⟨_, h0, _⟩ | ⟨ad, rfl, _, h2, h3, hr⟩
    · simp at h0
    · have h00 := hr 0 (.string x) rfl
      have hsp := World.cell?_spot h00.2
      have hadd0 : ad.add 0 = ad := by simp [Addr.add]
      rw [hadd0] at hsp
      obtain ⟨bk, o, sp⟩ := ad
      simp only at hsp
      subst hsp
      have hl := join_len 1000 ((x :: l).map (·.data.toList)) fun y hy => by
        obtain ⟨z, hz, rfl⟩ := List.mem_map.1 hy
        have := hf.2 z hz
        obtain ⟨a⟩ := z
        show a.toList.length ≤ 1000
        rw [Array.length_toList]; exact this
      rw [List.length_map] at hl
      have hn := hf.1
      have hmul := Nat.mul_le_mul_right 1001 hn
      exact Tryz.strings_Join bk o c (x :: l) ⟨#[32]⟩ w (fun j y hy => by
        have := (hr j (.string y) (by rw [strs, List.getElem?_map, hy]; rfl)).2
        rwa [Mem.add_plain] at this) (by have := h00.1; exact this) (by omega) h2 (by
        show (Lib.join _ [32]).length ≤ _
        omega)

theorem join_any (A : Option Addr) (c n : Nat) (l : List ByteArray) (w : World) (hn : l.length = n) (h : SlV w w.heap.size (.slice A n c) (strs l)) (hf : Few l 1000 1000) :
    Calls Tryz.prog 14 #[.slice A n c] w fun e w' => e = .returned (.string (joinB l)) ∧ Below w.heap.size w w' := by
  have HJ := Lib.hid (by have := sjoin_any A c l w (by rw [hn]; exact h) hf; rw [hn] at this; exact this)
  clear hn h hf
  go_enter Tryz.func14, Tryz.ntmps14
  go_wp2_with fail
  refine HJ.out.mono ?_
  rintro e w1 ⟨rfl, hb⟩
  have HB := Lib.hid hb
  clear hb
  go_wp2_with fail
  go_ret
  exact ⟨rfl, HB.out⟩

theorem slv_cells {w : World} {B n c : Nat} {A : Option Addr} {l : List ByteArray} (hn : l.length = n) (h : SlV w B (.slice A n c) (strs l)) {j : Nat} (hj : j < n) : ∃ ad x, A = some ad ∧ l[j]? = some x ∧ w.cell? (ad.add j) = some (.string x) := by
  rcases h.inv with ⟨_, h0, _⟩ | ⟨ad, e, _, h2, _, hr⟩
  · omega
  · refine ⟨ad, l[j]'(by omega), e, List.getElem?_eq_getElem (by omega), (hr j _ ?_).2⟩
    rw [strs, List.getElem?_map, List.getElem?_eq_getElem (by omega)]; rfl

theorem ret_str {a b : ByteArray} (h : a = b) : Ending.returned (.string a) = .returned (.string b) := by rw [h]

set_option maxRecDepth 100000 in
theorem rjoin_any (A : Option Addr) (c n : Nat) (l : List ByteArray) (w : World) (hn : l.length = n) (h : SlV w w.heap.size (.slice A n c) (strs l)) (hf : Few l 1000 1000) :
    Calls Tryz.prog 15 #[.slice A n c] w fun e w' => e = .returned (.string (joinB l)) ∧ w = w' := by
  have HC := Lib.hid (fun j (hj : j < n) => slv_cells hn h hj)
  have HN := Lib.hid hn
  have HF0 := Lib.hid hf
  have hl : n ≤ 1000 := by rw [← hn]; exact hf.1
  clear h hn hf
  go_enter Tryz.func15, Tryz.ntmps15
  go_wp2_with fail
  go_loop [3, 4] (fun sv i => ∃ (k : Nat) (t : ByteArray), k ≤ n ∧ i = .int .i64 k ∧ sv = .string t ∧ Hid (joinB (l.take k) = t) ∧ t.size ≤ k * 1001) (fun _ i => n - (intOf i).toNat)
  case atStart => exact ⟨0, _, by omega, rfl, rfl, Lib.hid rfl, by decide⟩
  case round =>
    obtain ⟨k, t, hk, rfl, rfl, HT, hts⟩ := hrel
    by_cases hlt : k < n
    · obtain ⟨ad, x, rfl, hx, hc⟩ := HC.out k hlt
      have hkn : (k : Int) < (n : Int) := by omega
      have hxs : x.size ≤ 1000 := HF0.out.2 x (List.mem_of_getElem? hx)
      have htk : l.take (k + 1) = l.take k ++ [x] := by
        obtain ⟨h1, h2⟩ := List.getElem?_eq_some_iff.1 hx
        rw [List.take_succ_eq_append_getElem h1, h2]
      by_cases h0 : k = 0
      · subst h0
        have HT2 := Lib.hid (show joinB (l.take (0 + 1)) = t ++ x by rw [htk, ← HT.out]; exact joinB_one x)
        have hc0 : w.cell? ad = some (.string x) := by
          have h1 := hc
          rwa [show ad.add 0 = ad by simp [Addr.add]] at h1
        clear htk hx
        go_wp2_with fail
        go_round
        case rel => exact ⟨0 + 1, _, by omega, by go_num, rfl, HT2, by rw [ByteArray.size_append]; omega⟩
        case measure => simp [intOf]; omega
      · have hk0 : (0 : Int) < (k : Int) := by omega
        have hk0' : 0 < k := by omega
        have HT2 := Lib.hid (show joinB (l.take (k + 1)) = t ++ ⟨#[32]⟩ ++ x by
          rw [htk, ← HT.out]
          refine joinB_next _ x fun e => ?_
          have := congrArg List.length e
          rw [List.length_take, HN.out] at this; simp at this; omega)
        clear htk hx
        go_wp2_with fail
        go_round
        case rel => exact ⟨k + 1, _, by omega, by go_num, rfl, HT2, by rw [ByteArray.size_append, ByteArray.size_append]; show t.size + 1 + x.size ≤ _; omega⟩
        case measure => simp [intOf]; omega
    · have HF := Lib.hid (show t = joinB l by rw [← HT.out, List.take_of_length_le (by rw [HN.out]; omega)])
      have hkn : ¬ (k : Int) < (n : Int) := by omega
      go_wp2_with fail
      go_ret
      exact ⟨ret_str HF.out, rfl⟩

/-- The table that decimals are made by. -/
def Tb (w : World) : Prop := Lib.TabIs Tryz.prog w "internal/strconv.uint64pow10" .u64 Lib.pow10Tab
def decB (n : Int) : ByteArray := ⟨(Lib.itoa n).toArray⟩

theorem decimal_any (n : Int) (h0 : -9223372036854775808 ≤ n) (h1 : n ≤ 9223372036854775807) (w : World) (ht : Tb w) :
    Calls Tryz.prog 16 #[.int .i64 n] w fun e w' => e = .returned (.string (decB n)) ∧ Below w.heap.size w w' := by
  have HF := Lib.hid (show Calls Tryz.prog 27 #[.int .i64 n, .int .i64 10] w fun e w' => e = .returned (.string (decB n)) ∧ Below w.heap.size w w' from
    (Tryz.strconv_FormatInt_10 n h0 h1 w ht).mono (by rintro e w' ⟨he, k, os, hw⟩; exact ⟨he, by rw [hw]; exact Lib.below_grow _ w (Nat.le_refl _) k os⟩))
  clear h0 h1 ht
  go_enter Tryz.func16, Tryz.ntmps16
  go_wp2_with fail
  refine HF.out.mono ?_
  rintro e w1 ⟨rfl, hb⟩
  have HB := Lib.hid hb
  clear hb
  go_wp2_with fail
  go_ret
  exact ⟨rfl, HB.out⟩
end Go.Proofs.YtnplhpbbdgnmiaaGreatDoor.Ln
