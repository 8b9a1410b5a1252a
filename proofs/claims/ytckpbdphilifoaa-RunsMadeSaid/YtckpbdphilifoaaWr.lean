/-
  MATHEMATICS of layer 13: the table of some rows.
-/
import Derived.Test.YtckpbdphilifoaaWq
namespace Go.Proofs.Ytckpbdphilifoaa.By
open Go.RowKit
open Mem Gm Rf

theorem rn_left {M : List Rn} {x : Rn} {j : Nat} (h : j < M.length) : rnAt (M ++ [x]) j = rnAt M j := by
  unfold rnAt
  rw [List.getD_eq_getElem?_getD, List.getD_eq_getElem?_getD, List.getElem?_append_left h]
theorem rn_right {M : List Rn} {x : Rn} : rnAt (M ++ [x]) M.length = x := by
  unfold rnAt
  rw [List.getD_eq_getElem?_getD, List.getElem?_append_right (Nat.le_refl _), Nat.sub_self]; rfl

structure MkI (rows : List Ro) (k : Nat) (M : List Rn) : Prop where
  none : k = 0 → M = []
  some : 0 < k → 0 < M.length ∧ fr M 0 = 0 ∧ (rnAt M (M.length - 1)).2 = roAt rows (k - 1)
  rise : ∀ i, i < M.length → 0 < i → fr M (i - 1) < fr M i
  lt : ∀ i, i < M.length → fr M i < (k : Int)
  diff : ∀ i, i < M.length → 0 < i → (rnAt M i).2 ≠ (rnAt M (i - 1)).2
  rows_ : ∀ i : Nat, i < k → rowV M (i : Int) = roAt rows i

theorem mk_full {M : List Rn} {p : Int} (h : ∀ i, i < M.length → fr M i ≤ p) : bg M p = M.length :=
  bg_is (fun j hj => h j hj) (Nat.le_refl _) (fun hh => absurd hh (Nat.lt_irrefl _))

theorem mkI (rows : List Ro) : ∀ k, MkI rows k (mkT rows k)
  | 0 => ⟨fun _ => rfl, fun h => by omega, fun i hi => by simp [mkT] at hi, fun i hi => by simp [mkT] at hi, fun i hi => by simp [mkT] at hi, fun i hi => by omega⟩
  | k + 1 => by
    have h := mkI rows k
    by_cases hn : New rows k
    · rw [mkT_yes hn]
      obtain ⟨M, hM⟩ : ∃ M, mkT rows k = M := ⟨_, rfl⟩
      rw [hM] at h ⊢
      have hlen : (M ++ [((k : Int), roAt rows k)]).length = M.length + 1 := by simp
      have hfl : ∀ j, j < M.length → fr (M ++ [((k : Int), roAt rows k)]) j = fr M j := fun j hj => by unfold fr; rw [rn_left hj]
      have hfr : fr (M ++ [((k : Int), roAt rows k)]) M.length = (k : Int) := by unfold fr; rw [rn_right]
      refine ⟨fun e => by omega, fun _ => ⟨by omega, ?_, ?_⟩, fun i hi h0 => ?_, fun i hi => ?_, fun i hi h0 => ?_, fun i hi => ?_⟩
      · rcases Nat.eq_zero_or_pos k with e | e
        · have := h.none e
          subst this
          rw [show (0 : Nat) = ([] : List Rn).length from rfl, hfr, e]; rfl
        · rw [hfl 0 (h.some e).1]; exact (h.some e).2.1
      · rw [hlen, Nat.add_sub_cancel, Nat.add_sub_cancel, rn_right]
      · rw [hlen] at hi
        rcases Nat.lt_or_ge i M.length with h1 | h1
        · rw [hfl i h1, hfl (i - 1) (by omega)]; exact h.rise i h1 h0
        · have e : i = M.length := by omega
          subst e
          rw [hfr, hfl _ (by omega)]
          exact h.lt _ (by omega)
      · rw [hlen] at hi
        rcases Nat.lt_or_ge i M.length with h1 | h1
        · rw [hfl i h1]; have := h.lt i h1; omega
        · have e : i = M.length := by omega
          subst e
          rw [hfr]; omega
      · rw [hlen] at hi
        rcases Nat.lt_or_ge i M.length with h1 | h1
        · rw [rn_left h1, rn_left (by omega)]; exact h.diff i h1 h0
        · have e : i = M.length := by omega
          subst e
          rw [rn_right, rn_left (by omega)]
          have hk : 0 < k := by
            rcases Nat.eq_zero_or_pos k with e | e
            · have := h.none e; rw [this] at h0; simp at h0
            · exact e
          rw [(h.some hk).2.2]
          rcases hn with e | e
          · omega
          · exact e
      · rcases Nat.lt_or_ge i k with h1 | h1
        · have hb : bg (M ++ [((k : Int), roAt rows k)]) (i : Int) = bg M (i : Int) := by
            refine bg_is (fun j hj => ?_) (by rw [hlen]; have := bg_le M (i : Int); omega) (fun hh => ?_)
            · have hj2 : j < M.length := Nat.lt_of_lt_of_le hj (bg_le ..)
              rw [rn_left hj2]; exact bg_lt hj
            · rcases Nat.lt_or_ge (bg M (i : Int)) M.length with h2 | h2
              · rw [rn_left h2]; exact bg_at h2
              · have e : bg M (i : Int) = M.length := Nat.le_antisymm (bg_le ..) h2
                rw [e, rn_right]
                show (i : Int) < (k : Int)
                omega
          have hr := h.rows_ i h1
          unfold rowV at hr ⊢
          rw [hb]
          rcases Nat.eq_zero_or_pos (bg M (i : Int)) with e | e
          · rw [if_pos e] at hr ⊢; exact hr
          · rw [if_neg (by omega)] at hr ⊢
            rw [rn_left (by have := bg_le M (i : Int); omega)]; exact hr
        · have e : i = k := by omega
          subst e
          have hb : bg (M ++ [((i : Int), roAt rows i)]) (i : Int) = M.length + 1 := by
            rw [← hlen]
            refine mk_full fun j hj => ?_
            rw [hlen] at hj
            rcases Nat.lt_or_ge j M.length with h2 | h2
            · rw [hfl j h2]; have := h.lt j h2; omega
            · have e : j = M.length := by omega
              subst e
              rw [hfr]; exact Int.le_refl _
          unfold rowV
          rw [hb, if_neg (by omega), Nat.add_sub_cancel, rn_right]
    · rw [mkT_no hn]
      obtain ⟨M, hM⟩ : ∃ M, mkT rows k = M := ⟨_, rfl⟩
      rw [hM] at h ⊢
      have hk : 0 < k := by
        rcases Nat.eq_zero_or_pos k with e | e
        · exact absurd (.inl e) hn
        · exact e
      have heq : roAt rows k = roAt rows (k - 1) := by
        by_cases e : roAt rows k = roAt rows (k - 1)
        · exact e
        · exact absurd (.inr e) hn
      obtain ⟨s1, s2, s3⟩ := h.some hk
      refine ⟨fun e => by omega, fun _ => ⟨s1, s2, by rw [s3, Nat.add_sub_cancel, heq]⟩, h.rise, fun i hi => by have := h.lt i hi; omega, h.diff, fun i hi => ?_⟩
      rcases Nat.lt_or_ge i k with h1 | h1
      · exact h.rows_ i h1
      · have e : i = k := by omega
        subst e
        have hb : bg M (i : Int) = M.length := mk_full fun j hj => by have := h.lt j hj; omega
        unfold rowV
        rw [hb, if_neg (by omega), s3, heq]

theorem mk_win (rows : List Ro) (n : Nat) : WIn (mkT rows n) (mkT rows n).length (n : Int) := by
  have h := mkI rows n
  rcases Nat.eq_zero_or_pos n with h0 | h0
  · left
    rw [h.none h0]; exact ⟨rfl, by omega⟩
  · right
    obtain ⟨s1, s2, _⟩ := h.some h0
    exact ⟨s1, s2, h.rise, h.lt _ (by omega)⟩
theorem mk_tw (rows : List Ro) (n : Nat) : ¬ Tw (mkT rows n) (mkT rows n).length := fun ⟨i, hi, h0, he⟩ => (mkI rows n).diff i hi h0 he
theorem mk_check (rows : List Ro) (n : Nat) (hn : n ≤ 4096) : chkR (mkT rows n) (mkT rows n).length (n : Int) = 0 :=
  chkR_ok (by have := mkT_len rows n; omega) (mk_win rows n) (mk_tw rows n)
theorem cnt_nat (n : Nat) (hn : n ≤ 4096) : cntP (n : Int) = n := by unfold cntP; omega
theorem mk_rows (rows : List Ro) (n : Nat) (h : rows.length = n) : rowsT (mkT rows n) n = rows := by
  refine list_eq_at ro0 (by rw [rowsT_len, h]) fun i hi => ?_
  rw [rowsT_len] at hi
  have : (rowsT (mkT rows n) n).getD i ro0 = rowV (mkT rows n) (i : Int) := by
    unfold rowsT
    rw [List.getD_eq_getElem?_getD, List.getElem?_map, List.getElem?_range hi]; rfl
  rw [this, (mkI rows n).rows_ i hi]; rfl
/-- A table that may be, and has the rows, is the table of the rows. -/
theorem mk_only {rows : List Ro} {n m : Nat} {l : List Rn} (hl : l.length = m) (hm : m ≤ 4096) (hc : chkR l m (n : Int) = 0) (hr : rowsT l n = rows) : l = mkT rows n := by
  subst hl
  have hw : WIn l l.length (n : Int) := by
    by_cases hw : WIn l l.length (n : Int)
    · exact hw
    · rw [chkR_range (by omega) hw] at hc; cases hc
  have ht : ¬ Tw l l.length := fun ht => by rw [chkR_twice (by omega) hw ht] at hc; cases hc
  refine tables_one hw (mk_win rows n) ht (mk_tw rows n) fun i hi => ?_
  rw [(mkI rows n).rows_ i hi, ← hr]
  unfold roAt rowsT
  rw [List.getD_eq_getElem?_getD, List.getElem?_map, List.getElem?_range hi]; rfl
end Go.Proofs.Ytckpbdphilifoaa.By
