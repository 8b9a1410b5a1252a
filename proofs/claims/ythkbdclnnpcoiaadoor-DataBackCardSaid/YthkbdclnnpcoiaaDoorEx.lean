/-
  MATHEMATICS of layer 15: what was put is got.
-/
import Derived.Test.YthkbdclnnpcoiaaDoorEt
namespace Go.Proofs.YthkbdclnnpcoiaaDoor.By
open Go.RowKit
open Mem Gm Rf
set_option linter.unusedSimpArgs false
set_option linter.unusedVariables false

theorem nat_step (n : Int) (k : Nat) : (natV (be n (k + 1)) : Int) = (natV (be (n / 256) k) : Int) * 256 + n % 256 := by
  have := byteI_toNat n
  rw [be, natV_snoc, Int.natCast_add, Int.natCast_mul, this]; rfl
theorem nat_zero (n : Int) : (natV (be n 0) : Int) = 0 := rfl
theorem num_1 (n : Int) (h : 0 ≤ n ∧ n ≤ 255) : numV false (be n 1) = n := by
  have h1 := nat_step n 0
  rw [nat_zero] at h1
  show numV false [byteI n] = n
  rw [numV_plain]
  show wrap64 (natV (be n 1)) = n
  rw [h1, wrap_in _ (by omega)]; omega
theorem num_8 (n : Int) (h : -9223372036854775808 ≤ n ∧ n ≤ 9223372036854775807) : numV false (be n 8) = n := by
  have e : (natV (be n 8) : Int) = n % 18446744073709551616 := by
    rw [nat_step, nat_step, nat_step, nat_step, nat_step, nat_step, nat_step, nat_step, nat_zero]; omega
  obtain ⟨x, r, hx⟩ : ∃ x r, be n 8 = x :: r := by
    cases hq : be n 8 with
    | nil => have := be_length 8 n; rw [hq] at this; simp at this
    | cons x r => exact ⟨x, r, rfl⟩
  rw [hx, numV_plain, ← hx, e]
  unfold wrap64; omega
theorem read_put {l r : List UInt8} {p k : Nat} {n : Int} (hk : 1 ≤ k ∧ k ≤ 8) (h : l.drop p = putB n k ++ r) (hn : numV false (be n k) = n) :
    rvS l (p, true) k = n ∧ pgS l (p, true) k = (p + k, true) ∧ l.drop (p + k) = r := by
  have hp : putB n k = be n k := by unfold putB; rw [if_pos (by omega), Int.toNat_natCast]
  rw [hp] at h
  have hlen := congrArg List.length h
  rw [List.length_drop, List.length_append, be_length] at hlen
  have hf : fitsB l p true k = true := by unfold fitsB; rw [Bool.true_and, decide_eq_true_eq]; omega
  refine ⟨?_, ?_, ?_⟩
  · unfold rvS readV
    rw [if_pos hf, Int.toNat_natCast, h, List.take_left' (be_length _ _), hn]
  · unfold pgS readP
    rw [if_pos hf, Int.toNat_natCast, hf]
  · rw [← List.drop_drop, h, List.drop_left' (be_length _ _)]
theorem one_put {l r : List UInt8} {p : Nat} {n : Int} (h : l.drop p = putB n 1 ++ r) (hn : 0 ≤ n ∧ n ≤ 255) : rvS l (p, true) 1 = n ∧ pgS l (p, true) 1 = (p + 1, true) ∧ l.drop (p + 1) = r := read_put (k := 1) (by omega) h (num_1 n hn)
theorem eight_put {l r : List UInt8} {p : Nat} {n : Int} (h : l.drop p = putB n 8 ++ r) (hn : -9223372036854775808 ≤ n ∧ n ≤ 9223372036854775807) : rvS l (p, true) 8 = n ∧ pgS l (p, true) 8 = (p + 8, true) ∧ l.drop (p + 8) = r := read_put (k := 8) (by omega) h (num_8 n hn)

theorem words_back {l r : List UInt8} : ∀ (ws : List Int) (p : Nat), (∀ n ∈ ws, -9223372036854775808 ≤ n ∧ n ≤ 9223372036854775807) → l.drop p = wsB ws ++ r →
    wds l ws.length (p, true) = ws ∧ wst l ws.length (p, true) = (p + 8 * ws.length, true) ∧ l.drop (p + 8 * ws.length) = r
  | [], p, _, h => ⟨rfl, rfl, h⟩
  | n :: ws, p, hw, h => by
    have h' : l.drop p = putB n 8 ++ (wsB ws ++ r) := by rw [h]; unfold wsB; rw [List.flatMap_cons, List.append_assoc]
    obtain ⟨a1, a2, a3⟩ := eight_put h' (hw n (by simp))
    obtain ⟨b1, b2, b3⟩ := words_back ws (p + 8) (fun m hm => hw m (by simp [hm])) a3
    have e : p + 8 + 8 * ws.length = p + 8 * (n :: ws).length := by simp; omega
    rw [← e]
    refine ⟨?_, ?_, b3⟩
    · show rvS l (p, true) 8 :: wds l ws.length (pgS l (p, true) 8) = _
      rw [a1, a2, b1]
    · show wst l ws.length (pgS l (p, true) 8) = _
      rw [a2, b2]

theorem refs_back {l r : List UInt8} : ∀ (rs : List Rl) (p : Nat), (∀ x ∈ rs, (0 ≤ x.1 ∧ x.1 ≤ 255) ∧ 0 ≤ x.2.1 ∧ x.2.1 ≤ 255) → l.drop p = rlsB rs ++ r →
    rfs l rs.length (p, true) = (some rs, (p + 3 * rs.length, true)) ∧ l.drop (p + 3 * rs.length) = r
  | [], p, _, h => ⟨rfl, h⟩
  | x :: rs, p, hw, h => by
    have h' : l.drop p = putB x.1 1 ++ (putB x.2.1 1 ++ (putB (fl x.2.2) 1 ++ (rlsB rs ++ r))) := by rw [h]; unfold rlsB; rw [List.flatMap_cons]; unfold rlB; simp only [List.append_assoc]
    obtain ⟨hx, hy⟩ := hw x (by simp)
    obtain ⟨a1, a2, a3⟩ := one_put h' hx
    obtain ⟨b1, b2, b3⟩ := one_put a3 hy
    obtain ⟨c1, c2, c3⟩ := one_put b3 (by unfold fl; split <;> omega)
    obtain ⟨d1, d2⟩ := refs_back rs (p + 1 + 1 + 1) (fun m hm => hw m (by simp [hm])) c3
    have e : p + 1 + 1 + 1 + 3 * rs.length = p + 3 * (x :: rs).length := by simp; omega
    rw [← e]
    refine ⟨?_, d2⟩
    have s1 : stN l (p, true) 1 = (p + 1, true) := a2
    have s2 : stN l (p, true) 2 = (p + 1 + 1, true) := by show pgS l (stN l (p, true) 1) 1 = _; rw [s1, b2]
    have s3 : t3 l (p, true) = (p + 1 + 1 + 1, true) := by show pgS l (stN l (p, true) 2) 1 = _; rw [s2, c2]
    have k1 : tkW l (p, true) = fl x.2.2 := by unfold tkW; rw [s2, c1]
    have k2 : tkX l (p, true) = x := by
      unfold tkX
      rw [s1, a1, b1, k1]
      obtain ⟨x0, x1, x2⟩ := x
      cases x2 <;> rfl
    show rfs l (rs.length + 1) (p, true) = _
    rw [rfs, if_neg (by rw [k1]; unfold fl; split <;> omega), s3, d1, k2]
    rfl

/-- What was put is got, and what lies behind stays. -/
theorem data_back (kd : Int) (ws : List Int) (rs : List Rl) (tl : List UInt8) (hk : 0 ≤ kd ∧ kd ≤ 255) (hW : ws.length ≤ 255) (hR : rs.length ≤ 255) (hw : ∀ n ∈ ws, -9223372036854775808 ≤ n ∧ n ≤ 9223372036854775807) (hr : ∀ x ∈ rs, (0 ≤ x.1 ∧ x.1 ≤ 255) ∧ 0 ≤ x.2.1 ∧ x.2.1 ≤ 255) :
    gdV (dtB kd ws rs ++ tl) (0, true) = ⟨kd, ws, rs, 0⟩ ∧ (gR (dtB kd ws rs ++ tl) (0, true)).2 = ((dtB kd ws rs).length, true) := by
  obtain ⟨l, hl⟩ : ∃ l, dtB kd ws rs ++ tl = l := ⟨_, rfl⟩
  have h0 : l.drop 0 = putB kd 1 ++ (putB (ws.length : Int) 1 ++ (wsB ws ++ (putB (rs.length : Int) 1 ++ (rlsB rs ++ tl)))) := by rw [← hl]; unfold dtB; simp only [List.drop_zero, List.append_assoc]
  rw [hl]
  obtain ⟨a1, a2, a3⟩ := one_put h0 hk
  obtain ⟨b1, b2, b3⟩ := one_put a3 (by omega)
  obtain ⟨c1, c2, c3⟩ := words_back ws _ hw b3
  obtain ⟨d1, d2, d3⟩ := one_put c3 (by omega)
  obtain ⟨e1, e2⟩ := refs_back rs _ hr d3
  have n1 : gN1 l (0, true) = ws.length := by unfold gN1; rw [a2, b1]; simp
  have g2 : gS2 l (0, true) = (0 + 1 + 1, true) := by unfold gS2; rw [a2, b2]
  have g3 : gS3 l (0, true) = (0 + 1 + 1 + 8 * ws.length, true) := by unfold gS3; rw [n1, g2, c2]
  have n2 : gN2 l (0, true) = rs.length := by unfold gN2; rw [g3, d1]; simp
  have gr : gR l (0, true) = (some rs, (0 + 1 + 1 + 8 * ws.length + 1 + 3 * rs.length, true)) := by unfold gR; rw [g3, n2, d2, e1]
  have hlen : (dtB kd ws rs).length = 0 + 1 + 1 + 8 * ws.length + 1 + 3 * rs.length := by
    unfold dtB
    have h3 : ∀ rs : List Rl, (rlsB rs).length = 3 * rs.length := fun rs => by
      induction rs with
      | nil => rfl
      | cons x rs ih => unfold rlsB at ih ⊢; rw [List.flatMap_cons, List.length_append, ih]; unfold rlB; simp only [List.length_append, putB1, List.length_cons]; omega
    simp only [List.length_append, putB1, wsB_len, h3]; omega
  refine ⟨?_, by rw [gr, hlen]⟩
  unfold gdV
  rw [gr]
  simp only [Bool.true_eq_false, if_false, a1, n1, g2, c1]
end Go.Proofs.YthkbdclnnpcoiaaDoor.By
