/-
  WALKS of layer 9: the document's Digits, of any number.
-/
import Derived.Test.YtnplhpbbdgnmiaaGreatDoorLg
import Derived.Test.YtnplhpbbdgnmiaaGreatDoorSx
import Derived.Lib.ItoaLen
import Derived.Lib.ItoaMem
namespace Go.Proofs.YtnplhpbbdgnmiaaGreatDoor.Ln
open Go.RowKit
open Mem Go.Lib

/-- The digits of what is left: none of 0. -/
def dd (u : Nat) : List UInt8 := if u = 0 then [] else decDigits u
theorem dd_step (u : Nat) (h : u ≠ 0) : dd u = dd (u / 10) ++ [UInt8.ofNat (48 + u % 10)] := by
  unfold dd
  rw [if_neg h]
  by_cases h1 : u < 10
  · rw [decDigits_one h1, if_pos (by omega), List.nil_append, Nat.mod_eq_of_lt h1]
  · rw [if_neg (by omega), decDigits, dif_neg h1]

theorem parts10 (kk : Int) : (0 ≤ kk ∧ kk.tmod 10 = ((kk.natAbs % 10 : Nat) : Int) ∧ kk.tdiv 10 = ((kk.natAbs / 10 : Nat) : Int)) ∨ (kk < 0 ∧ kk.tmod 10 = -((kk.natAbs % 10 : Nat) : Int) ∧ kk.tdiv 10 = -((kk.natAbs / 10 : Nat) : Int)) := by
  rcases (by omega : kk < 0 ∨ 0 ≤ kk) with h | h
  · refine .inr ⟨h, ?_, ?_⟩
    · obtain ⟨u, rfl⟩ : ∃ u : Nat, kk = -(u : Int) := ⟨kk.natAbs, by omega⟩
      rw [Int.neg_tmod, Int.natAbs_neg, Int.natAbs_natCast]; rfl
    · obtain ⟨u, rfl⟩ : ∃ u : Nat, kk = -(u : Int) := ⟨kk.natAbs, by omega⟩
      rw [Int.neg_tdiv, Int.natAbs_neg, Int.natAbs_natCast]; rfl
  · refine .inl ⟨h, ?_, ?_⟩
    · obtain ⟨u, rfl⟩ : ∃ u : Nat, kk = (u : Int) := ⟨kk.natAbs, by omega⟩
      rw [Int.natAbs_natCast]; rfl
    · obtain ⟨u, rfl⟩ : ∃ u : Nat, kk = (u : Int) := ⟨kk.natAbs, by omega⟩
      rw [Int.natAbs_natCast]; rfl

theorem wr_in {z : Int} (h0 : -9223372036854775808 ≤ z) (h1 : z ≤ 9223372036854775807) : wrap64 z = z := by
  unfold wrap64; omega

/-- What a round makes of what is left. -/
structure Rd (n kk d q : Int) (c : UInt8) (y : Int) : Prop where
  sgn : (d < 0 ∧ wrap64 (-d) = y - 48) ∨ (¬ d < 0 ∧ d = y - 48)
  add : wrap64 (48 + (y - 48)) = y
  byte : y % 256 = y
  num : y = (c.toNat : Int)
  less : q.natAbs < kk.natAbs
  abs : q.natAbs ≤ n.natAbs ∧ (n < 0 → q ≤ 0) ∧ (0 < n → 0 ≤ q)
  dig : dd kk.natAbs = dd q.natAbs ++ [c]

theorem round_of {n kk : Int} (hk : kk ≠ 0) (h : kk.natAbs ≤ n.natAbs ∧ (n < 0 → kk ≤ 0) ∧ (0 < n → 0 ≤ kk)) : ∃ d q c y, kk.tmod 10 = d ∧ kk.tdiv 10 = q ∧ Rd n kk d q c y := by
  obtain ⟨h1, h2, h3⟩ := h
  have hm : kk.natAbs % 10 < 10 := Nat.mod_lt _ (by decide)
  have hc : (UInt8.ofNat (48 + kk.natAbs % 10)).toNat = 48 + kk.natAbs % 10 := by
    rw [UInt8.toNat_ofNat']; omega
  have hdd := dd_step kk.natAbs (by omega)
  rcases parts10 kk with ⟨hs, e1, e2⟩ | ⟨hs, e1, e2⟩
  · refine ⟨_, _, UInt8.ofNat (48 + kk.natAbs % 10), ((48 + kk.natAbs % 10 : Nat) : Int), e1, e2, ⟨.inr ⟨by omega, by omega⟩, ?_, by omega, by rw [hc], ?_, ⟨?_, ?_, ?_⟩, ?_⟩⟩
    · rw [wr_in (by omega) (by omega)]; omega
    · rw [Int.natAbs_natCast]; omega
    · rw [Int.natAbs_natCast]; omega
    · intro hn; have := h2 hn; omega
    · intro hn; omega
    · rw [Int.natAbs_natCast]; exact hdd
  · refine ⟨_, _, UInt8.ofNat (48 + kk.natAbs % 10), ((48 + kk.natAbs % 10 : Nat) : Int), e1, e2, ⟨?_, ?_, by omega, by rw [hc], ?_, ⟨?_, ?_, ?_⟩, ?_⟩⟩
    · by_cases hz : kk.natAbs % 10 = 0
      · exact .inr ⟨by omega, by omega⟩
      · refine .inl ⟨by omega, ?_⟩
        rw [wr_in (by omega) (by omega)]; omega
    · rw [wr_in (by omega) (by omega)]; omega
    · rw [Int.natAbs_neg, Int.natAbs_natCast]; omega
    · rw [Int.natAbs_neg, Int.natAbs_natCast]; omega
    · intro hn; omega
    · intro hn; have := h3 hn; omega
    · rw [Int.natAbs_neg, Int.natAbs_natCast]; exact hdd

theorem decB_neg (n : Int) (h : n < 0) : decB n = ⟨#[45]⟩ ++ ⟨(dd n.natAbs).toArray⟩ := by
  apply ba_ext
  rw [ba_append]
  show Lib.itoa n = [45] ++ dd n.natAbs
  unfold Lib.itoa dd
  rw [if_pos h, if_neg (by omega)]; rfl
theorem decB_pos (n : Int) (h : 0 < n) : decB n = ⟨(dd n.natAbs).toArray⟩ := by
  apply ba_ext
  show Lib.itoa n = dd n.natAbs
  unfold Lib.itoa dd
  rw [if_neg (by omega), if_neg (by omega)]
  congr 1; omega

theorem dd_len (n : Int) (h0 : -9223372036854775808 ≤ n) (h1 : n ≤ 9223372036854775807) : (dd n.natAbs).length ≤ 20 := by
  unfold dd
  split
  · simp
  · rw [decDigits_length]; exact nDigits_le20 _ (by omega)

set_option maxRecDepth 100000 in
set_option maxHeartbeats 1000000 in
theorem rdigits_any (n : Int) (h0 : -9223372036854775808 ≤ n) (h1 : n ≤ 9223372036854775807) (w : World) :
    Calls Tryz.prog 17 #[.int .i64 n] w fun e w' => e = .returned (.string (decB n)) ∧ Below w.heap.size w w' := by
  by_cases hz : n = 0
  · subst hz
    have h := Si.dig0 w
    rwa [show (⟨#[48]⟩ : ByteArray) = decB 0 by rw [decB, Lib.itoa, if_neg (by omega)]; rw [show (0 : Int).toNat = 0 from rfl, decDigits_one (by decide)]; rfl] at h
  · have hzq : (n == 0) = false := by simpa using hz
    have HLEN := Lib.hid (dd_len n h0 h1)
    have H0 := Lib.hid h0
    have H1 := Lib.hid h1
    have HZ := Lib.hid hz
    clear h0 h1 hz
    go_enter Tryz.func17, Tryz.ntmps17
    go_wp2_with fail
    go_loopw [3, 4, 5] (fun sv kv dv wr => ∃ (kk : Int) (t : ByteArray), kv = .int .i64 kk ∧ sv = .string t ∧ Hid (kk.natAbs ≤ n.natAbs ∧ (n < 0 → kk ≤ 0) ∧ (0 < n → 0 ≤ kk)) ∧ Hid (dd n.natAbs = dd kk.natAbs ++ t.data.toList) ∧ Below w.heap.size w wr) (fun _ kv _ _ => (intOf kv).natAbs)
    case atStart => exact ⟨n, _, rfl, rfl, Lib.hid ⟨Nat.le_refl _, fun h => by omega, fun h => by omega⟩, Lib.hid (by simp), Below.refl _ _⟩
    case round =>
      obtain ⟨kk, t, rfl, rfl, HK, HT, hb⟩ := hrel
      have HB := Lib.hid hb
      clear hb
      by_cases hk : kk = 0
      · subst hk
        have HT2 := Lib.hid (show t = ⟨(dd n.natAbs).toArray⟩ by
          apply ba_ext
          have h1 := HT.out
          rw [show dd (Int.natAbs 0) = [] from rfl, List.nil_append] at h1
          exact h1.symm)
        have hts : t.size ≤ 20 := by
          rw [HT2.out]; exact HLEN.out
        by_cases hn : n < 0
        · have HF := Lib.hid (show ⟨#[45]⟩ ++ t = decB n by rw [decB_neg n hn, HT2.out])
          clear HK HT
          go_wp2_with fail
          go_ret
          exact ⟨ret_str HF.out, HB.out⟩
        · have HF := Lib.hid (show t = decB n by rw [decB_pos n (by have := HZ.out; omega), HT2.out])
          clear HK HT
          go_wp2_with fail
          go_ret
          exact ⟨ret_str HF.out, HB.out⟩
      · have hkq : (kk != 0) = true := by simpa using hk
        have hkq' : (kk == 0) = false := by simpa using hk
        obtain ⟨d, q, c, y, hd, hq, HR⟩ := round_of hk HK.out
        have hts : t.size ≤ 20 := by
          have h1 := congrArg List.length HT.out
          rw [List.length_append] at h1
          have h2 := HLEN.out
          have h3 : t.data.toList.length = t.size := by obtain ⟨b⟩ := t; show b.toList.length = b.size; rw [Array.length_toList]
          omega
        have HT2 := Lib.hid (show dd n.natAbs = dd q.natAbs ++ (⟨#[c]⟩ ++ t : ByteArray).data.toList by
          rw [HT.out, HR.dig, ba_append]; simp)
        have hconv := fun W => Si.conv1 W c y HR.num
        have hby := HR.byte
        have hadd := HR.add
        have hqk := HR.less
        have hqw : wrap64 q = q := by
          have h1 := HK.out.1
          have h2 := H0.out
          have h3 := H1.out
          exact wr_in (by omega) (by omega)
        have HABS := Lib.hid HR.abs
        have HNW := Lib.hid (HB.out.alloc HB.out.size (.cells #[.int .u8 y] 5))
        obtain ⟨z, hz⟩ : ∃ z, y - 48 = z := ⟨_, rfl⟩
        have hsg := HR.sgn
        rw [hz] at hsg hadd
        clear HR hz HT HK
        rcases hsg with ⟨hn, hw⟩ | ⟨hn, hw⟩
        · go_wp2_with fail
          go_roundw
          case rel => exact ⟨q, _, by rw [hqw], rfl, HABS, HT2, HNW.out⟩
          case measure => simpa [intOf, hqw] using hqk
        · subst hw
          go_wp2_with fail
          go_roundw
          case rel => exact ⟨q, _, by rw [hqw], rfl, HABS, HT2, HNW.out⟩
          case measure => simpa [intOf, hqw] using hqk
end Go.Proofs.YtnplhpbbdgnmiaaGreatDoor.Ln
