/-
  WALK of layer 9's laws: known.
-/
import Derived.Test.YtnplhpbbdgnmiaaGreatDoorMc
import Derived.Test.YtnplhpbbdgnmiaaGreatDoorMf
namespace Go.Proofs.YtnplhpbbdgnmiaaGreatDoor.Ln
open Go.RowKit
open Mem Go.Lib

theorem decP (u : Nat) {l : List UInt8} (h : Lib.decDigits u = l) : decB (u : Int) = ⟨l.toArray⟩ := by
  unfold decB; rw [Lib.itoa_nonneg, h]
theorem decN (u : Nat) (h1 : 1 ≤ u) {l : List UInt8} (h : Lib.decDigits u = l) : decB (-(u : Int)) = ⟨(45 :: l).toArray⟩ := by
  unfold decB; rw [Lib.itoa_neg u h1, h]
theorem d3 : decB 3 = ⟨#[51]⟩ := decP 3 (Lib.decDigits_one (by decide))
theorem d1 : decB 1 = ⟨#[49]⟩ := decP 1 (Lib.decDigits_one (by decide))
theorem d5 : decB (-5) = ⟨#[45, 53]⟩ := decN 5 (by decide) (Lib.decDigits_one (by decide))
theorem d12 : decB (-12) = ⟨#[45, 49, 50]⟩ := decN 12 (by decide) (Lib.decDigits_two (by decide) (by decide))

/-- "via 3 1 f2r", with one blank between two, and with two. -/
def viaL : ByteArray := ⟨#[118, 105, 97, 32, 51, 32, 49, 32, 102, 50, 114]⟩
def viaL2 : ByteArray := ⟨#[118, 105, 97, 32, 32, 51, 32, 49, 32, 102, 50, 114]⟩
theorem ch_via : By.chV 20 3 1 5 0 = 0 := by
  have q : ∀ k : Nat, k < 4 → k = 0 ∨ k = 1 ∨ k = 2 ∨ k = 3 := fun k h => by omega
  exact By.ch_ok (by decide) (fun k hk => by rcases q k hk with rfl | rfl | rfl | rfl <;> (unfold By.inV; decide))
    (fun k hk => by rcases q k hk with rfl | rfl | rfl | rfl <;> (unfold By.argV; decide))
theorem wds_via : wds 3 1 5 0 0 (By.shV 20).data.toList = some [⟨#[51]⟩, ⟨#[49]⟩, ⟨#[102, 50, 114]⟩] := by
  have hs : (By.shV 20).data.toList = [99, 102, 107, 45] := by decide
  have w3 : wrV ((((99 : UInt8).toNat : Nat)) : Int) (By.opdV 3 1 5 0 ((0 : Nat) : Int)) = (⟨#[51]⟩, true) := by rw [← d3]; exact wrV_n (by decide) 3
  have w1 : wrV ((((102 : UInt8).toNat : Nat)) : Int) (By.opdV 3 1 5 0 ((0 + 1 : Nat) : Int)) = (⟨#[49]⟩, true) := by rw [← d1]; exact wrV_n (by decide) 1
  have w2 : wrV ((((107 : UInt8).toNat : Nat)) : Int) (By.opdV 3 1 5 0 ((0 + 1 + 1 : Nat) : Int)) = (⟨#[102, 50, 114]⟩, true) := by rw [wrV_k]; decide +kernel
  rw [hs, wds, if_neg (by decide), w3, if_pos rfl, wds, if_neg (by decide), w1, if_pos rfl, wds, if_neg (by decide), w2, if_pos rfl, wds, if_pos rfl, wds]
  rfl
theorem txt_via : txtV 20 3 1 5 0 = (viaL, 0) := by
  unfold txtV
  rw [if_neg (by rw [ch_via]; decide), if_neg (by decide), wds_via]
  rfl
theorem words_eq {s t : ByteArray} (h : wl [] s.data.toList = wl [] t.data.toList) : wordsL s = wordsL t := map_inj (by rw [words_wl, words_wl, h])
theorem par_via : parV viaL2 = (insQ 20 (3, 1, 5, 0), 0) :=
  parse_back (fun i => opd_i64 ⟨by decide, by decide⟩ ⟨by decide, by decide⟩ ⟨by decide, by decide⟩ ⟨by decide, by decide⟩ i) (by rw [txt_via]) viaL2 (by rw [txt_via]; exact words_eq (by decide +kernel))
/-- "set 1". -/
def setL : ByteArray := ⟨#[115, 101, 116, 32, 49]⟩
theorem par_set : parV setL = (zeroI, 3) := by
  have hw : wordsL setL = [⟨#[115, 101, 116]⟩, ⟨#[49]⟩] := map_inj (by rw [words_wl]; decide +kernel)
  have hf : By.fnV (⟨#[115, 101, 116]⟩ : ByteArray).data.toList = 2 := By.fn_hit _ 2 (by decide) rfl
  have hs : (By.shV 2).data.toList = [119, 45, 45, 110] := by decide
  have hr : rdV (((119 : UInt8).toNat : Nat) : Int) ⟨#[49]⟩ = (1, true) := by
    unfold rdV; rw [if_neg (by decide)]; exact numV_yes ⟨by decide, by decide⟩ d1
  have ht : tgO [⟨#[115, 101, 116]⟩, ⟨#[49]⟩] = none := by
    unfold tgO
    simp only
    rw [hf, if_neg (by decide), hs, rdL_put _ _ _ _ _ (by decide), hr, if_pos rfl, rdL_skip, rdL_skip, rdL_few _ _ _ (by decide)]
    rfl
  rw [parV_tg, hw, ht]
theorem num_12 : numV ⟨#[45, 49, 50]⟩ = (-12, true) := numV_yes ⟨by decide, by decide⟩ d12
theorem lines_3 : (linesL ⟨#[97, 10, 10, 98]⟩).length = 3 := by decide +kernel
theorem words_2 : (wordsL ⟨#[32, 97, 32, 32, 98]⟩).length = 2 := by
  have := congrArg List.length (words_wl ⟨#[32, 97, 32, 32, 98]⟩)
  rw [List.length_map] at this
  rw [this]; decide +kernel
theorem join_ab : joinB [⟨#[97]⟩, ⟨#[98]⟩] = ⟨#[97, 32, 98]⟩ := by decide +kernel
end Go.Proofs.YtnplhpbbdgnmiaaGreatDoor.Ln
