/-
  WALKS: few, the document's own Texts (of lists that are alike), and known of layer 4's laws.
-/
import Derived.Test.YtlpmndljjdljmaaDoorNt
namespace Go.Proofs.YtlpmndljjdljmaaDoor.By
open Go.RowKit
open Mem Nam

/-- May these texts be worked on? -/
def fewB (l : List Bs) : Bool := decide ((∀ x ∈ l, x.length ≤ 200) ∧ l.length ≤ 60)

theorem bs_size (x : Bs) : (⟨x.toArray⟩ : ByteArray).size = x.length := by simp [ByteArray.size]

set_option maxHeartbeats 1000000 in
theorem few_any (w : World) (B : Nat) (v : Value) (l : List Bs) (h : SlV w B v (strs l)) :
    Calls Tryd.prog 6 #[v] w fun e w' => e = .returned (.bool (fewB l)) ∧ ∃ n, w' = w.drewN n := by
  have hl : l.length ≤ 9223372036854775807 := by
    cases hv : h.form with
    | intro A hc =>
      obtain ⟨c, rfl⟩ := hc
      rcases h.inv with ⟨_, h0, _⟩ | ⟨ad, _, h1, h2, h3, _⟩
      · rw [strs_length] at h0; omega
      · rw [strs_length] at h2; unfold maxLen at h3; omega
  have hv := h.form
  rw [strs_length] at hv
  obtain ⟨A, c, rfl⟩ := hv
  have HC := Lib.hid (show ∀ j (hj : j < l.length), ∃ ad, A = some ad ∧ l.length ≤ c ∧ w.cell? (ad.add j) = some (.string ⟨l[j].toArray⟩) from fun j hj => by
    rcases h.inv with ⟨_, h0, _⟩ | ⟨ad, e, _, h2, _, hr⟩
    · omega
    · exact ⟨ad, e, h2, (hr j _ (by simp [strs, hj])).2⟩)
  clear h
  obtain ⟨n, hn⟩ : ∃ n, l.length = n := ⟨_, rfl⟩
  have HN := Lib.hid hn
  rw [hn] at hl ⊢
  clear hn
  go_enter Tryd.func6, Tryd.ntmps6
  go_wp2_with fail
  go_loop [3] (fun i => ∃ k : Nat, k ≤ n ∧ i = .int .i64 k ∧ Hid (∀ x ∈ l.take k, x.length ≤ 200)) (fun i => n - (intOf i).toNat)
  case atStart => exact ⟨0, by omega, rfl, Lib.hid (by simp)⟩
  case round =>
    obtain ⟨k, hk, rfl, HO⟩ := hrel
    by_cases hlt : k < n
    · have hkl : k < l.length := by rw [HN.out]; exact hlt
      obtain ⟨ad, rfl, hnc, hx⟩ := HC.out k hkl
      rw [HN.out] at hnc
      have hs := bs_size l[k]
      by_cases hb : 200 < l[k].length
      · have HF := Lib.hid (show fewB l = false by unfold fewB; rw [decide_eq_false_iff_not]; intro hh; have := hh.1 l[k] (List.getElem_mem hkl); omega)
        have hd : decide (200 < ((⟨l[k].toArray⟩ : ByteArray).size : Int)) = true := by rw [hs]; simp; omega
        generalize (⟨l[k].toArray⟩ : ByteArray) = y at hx hd
        clear hb hkl hs
        go_wp2_with fail
        go_ret
        exact ⟨ret_bool HF.out.symm, 0, rfl⟩
      · have HO2 := Lib.hid (show ∀ x ∈ l.take (k + 1), x.length ≤ 200 from fun x hx => by
          rcases (mem_next hkl x).1 hx with h | rfl
          · exact HO.out x h
          · omega)
        have hd : decide (200 < ((⟨l[k].toArray⟩ : ByteArray).size : Int)) = false := by rw [hs]; simp; omega
        generalize (⟨l[k].toArray⟩ : ByteArray) = y at hx hd
        clear hb hkl HO hs
        go_wp2_with fail
        go_round
        case rel => exact ⟨k + 1, by omega, by go_num, HO2⟩
        case measure => simp [intOf]; omega
    · have HF := Lib.hid (show fewB l = decide ((n : Int) ≤ 60) by
        have := HO.out
        rw [List.take_of_length_le (by rw [HN.out]; omega)] at this
        unfold fewB
        rw [HN.out]
        apply decide_eq_decide.2
        constructor
        · intro h; omega
        · intro h; exact ⟨this, by omega⟩)
      go_wp2_with fail
      go_ret
      exact ⟨ret_bool HF.out.symm, 0, rfl⟩

set_option maxHeartbeats 1000000 in
theorem texts_same (w : World) (B B2 : Nat) (v v2 : Value) (l : List Bs) (h : SlV w B v (strs l)) (h2 : SlV w B2 v2 (strs l)) (hl : l.length ≤ 1000000) :
    Calls Tryd.prog 14 #[v, v2] w fun e w' => e = .returned (.bool true) ∧ ∃ n, w' = w.drewN n := by
  have hv := h.form
  rw [strs_length] at hv
  obtain ⟨A, c, rfl⟩ := hv
  have hv := h2.form
  rw [strs_length] at hv
  obtain ⟨A2, c2, rfl⟩ := hv
  have HC := Lib.hid (show ∀ j (hj : j < l.length), ∃ ad, A = some ad ∧ l.length ≤ c ∧ w.cell? (ad.add j) = some (.string ⟨l[j].toArray⟩) from fun j hj => by
    rcases h.inv with ⟨_, h0, _⟩ | ⟨ad, e, _, h2, _, hr⟩
    · omega
    · exact ⟨ad, e, h2, (hr j _ (by simp [strs, hj])).2⟩)
  have HC2 := Lib.hid (show ∀ j (hj : j < l.length), ∃ ad, A2 = some ad ∧ l.length ≤ c2 ∧ w.cell? (ad.add j) = some (.string ⟨l[j].toArray⟩) from fun j hj => by
    rcases h2.inv with ⟨_, h0, _⟩ | ⟨ad, e, _, h2, _, hr⟩
    · omega
    · exact ⟨ad, e, h2, (hr j _ (by simp [strs, hj])).2⟩)
  clear h h2
  obtain ⟨n, hn⟩ : ∃ n, l.length = n := ⟨_, rfl⟩
  have HN := Lib.hid hn
  rw [hn] at hl ⊢
  clear hn
  go_enter Tryd.func14, Tryd.ntmps14
  go_wp2_with fail
  go_loopw [5] (fun i wr => ∃ k q : Nat, k ≤ n ∧ i = .int .i64 k ∧ wr = w.drewN q) (fun i _ => n - (intOf i).toNat)
  case atStart => exact ⟨0, 0, by omega, rfl, rfl⟩
  case round =>
    obtain ⟨k, q, hk, rfl, rfl⟩ := hrel
    by_cases hlt : k < n
    · have hkl : k < l.length := by rw [HN.out]; exact hlt
      obtain ⟨ad, rfl, hnc, hx⟩ := HC.out k hkl
      obtain ⟨ad2, rfl, hnc2, hx2⟩ := HC2.out k hkl
      rw [HN.out] at hnc hnc2
      generalize (⟨l[k].toArray⟩ : ByteArray) = y at hx hx2
      clear hkl
      go_wp2_with fail
      go_quiet (fail)
      go_wp2_with fail
      go_roundw
      case rel => exact ⟨k + 1, q + nq, by omega, by go_num, by first | rfl | exact World.drewN_drewN ..⟩
      case measure => simp [intOf]; omega
    · go_wp2_with fail
      go_ret
      exact ⟨rfl, q, rfl⟩
end Go.Proofs.YtlpmndljjdljmaaDoor.By
