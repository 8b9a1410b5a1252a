/-
  OF INSTRUCTIONS AND BYTES: what may be is got as it was put; another operand.
-/
import Derived.Test.YtieacapdfeljfaaDoorIl
namespace Go.Proofs.YtieacapdfeljfaaDoor.By
open Go.ChangeShapes Go.WideShapes Go.ChangeAt Go.RowKit
open Mem

theorem ch_zero {o a b c n : Int} (h : chV o a b c n = 0) : (1 ≤ o ∧ o ≤ 28) ∧ ∀ k, k < 4 → inV a b c n k := by
  unfold chV at h
  split at h
  · cases h
  · rename_i h1
    split at h
    · rename_i h2
      exact ⟨by simpa using h1, h2⟩
    · cases h

theorem ins_eight (o a b c n : Int) : insB o a b c n = [byteI o, byteI a, byteI b, byteI c, byteI (n / 256 / 256 / 256), byteI (n / 256 / 256), byteI (n / 256), byteI n] := by
  simp [insB, pfxB, putB, be, widV, opdV]

theorem ins_length (o a b c n : Int) : (insB o a b c n).length = 8 := by rw [ins_eight]; rfl

theorem ins_fits (o a b c n : Int) : fitsB (insB o a b c n) 0 true 8 = true ∧ readP (insB o a b c n) 0 true 8 = 8 :=
  fits_yes _ 0 8 (by omega) (by omega) (by rw [ins_length]; omega)

theorem byte_in (x : Int) (h : 0 ≤ x ∧ x ≤ 255) : ((byteI x).toNat : Int) = x := by rw [byteI_toNat]; omega

theorem one_at (l : List UInt8) (p : Nat) (x : UInt8) (h : l[p]? = some x) : readV false l p true 1 = (x.toNat : Int) := by
  have hp : p < l.length := (List.getElem?_eq_some_iff.1 h).1
  unfold readV
  rw [if_pos (fits_yes l p 1 (by omega) (by omega) (by omega)).1]
  have : (l.drop p).take (1 : Int).toNat = [x] := by
    rw [List.drop_eq_getElem_cons hp]
    have e : l[p] = x := by rw [List.getElem?_eq_getElem hp] at h; injection h
    simp [e]
  rw [this]
  simp [numV, acc]

theorem four_at (x3 x2 x1 x0 y0 y1 y2 y3 : UInt8) : readV true [y0, y1, y2, y3, x3, x2, x1, x0] 4 true 4 = numV true [x3, x2, x1, x0] := by
  unfold readV
  rw [if_pos (fits_yes _ 4 4 (by omega) (by omega) (by simp)).1]
  rfl

theorem natV_four (x y z u : UInt8) : ((natV [x, y, z, u] : Nat) : Int) = (x.toNat : Int) * 16777216 + (y.toNat : Int) * 65536 + (z.toNat : Int) * 256 + (u.toNat : Int) := by
  generalize hx : x.toNat = x'
  generalize hy : y.toNat = y'
  generalize hz : z.toNat = z'
  generalize hu : u.toNat = u'
  have : natV [x, y, z, u] = (((0 * 256 + x') * 256 + y') * 256 + z') * 256 + u' := by
    unfold natV
    simp only [List.foldl_cons, List.foldl_nil, hx, hy, hz, hu]
  rw [this]
  omega

theorem sign_four (x y z u : UInt8) (n : Int) (h : -2147483648 ≤ n ∧ n ≤ 2147483647) (hx : (x.toNat : Int) = n / 256 / 256 / 256 % 256) (hy : (y.toNat : Int) = n / 256 / 256 % 256) (hz : (z.toNat : Int) = n / 256 % 256) (hu : (u.toNat : Int) = n % 256) :
    numV true [x, y, z, u] = n := by
  rw [numV_sign, natV_four, hx, hy, hz, hu]
  have h5 : (256 : Int) ^ 4 = 4294967296 := by decide +kernel
  have h4 : (256 : Int) ^ (List.length [y, z, u] + 1) = 4294967296 := h5
  clear h5
  by_cases h128 : 128 ≤ x.toNat
  · rw [if_pos h128, h4, wrap_in _ (by omega)]
    omega
  · rw [if_neg h128, wrap_in _ (by omega)]
    omega

theorem num_four (n : Int) (h : -2147483648 ≤ n ∧ n ≤ 2147483647) : numV true [byteI (n / 256 / 256 / 256), byteI (n / 256 / 256), byteI (n / 256), byteI n] = n := by
  exact sign_four _ _ _ _ n h (byteI_toNat _) (byteI_toNat _) (byteI_toNat _) (byteI_toNat _)

/-- What may be is got as it was put. -/
theorem got_back (o a b c n : Int) (h : chV o a b c n = 0) : gotI (insB o a b c n) 0 true = insC o a b c n ∧ gotE (insB o a b c n) 0 true = 0 := by
  obtain ⟨ho, hin⟩ := ch_zero h
  have ha : 0 ≤ a ∧ a ≤ 255 := hin 0 (by omega)
  have hb : 0 ≤ b ∧ b ≤ 255 := hin 1 (by omega)
  have hc : 0 ≤ c ∧ c ≤ 255 := hin 2 (by omega)
  have hn : -2147483648 ≤ n ∧ n ≤ 2147483647 := hin 3 (by omega)
  have e0 : rdO (insB o a b c n) 0 = o := by rw [← byte_in o (by omega)]; exact one_at _ 0 _ (by rw [ins_eight]; simp [byte_in o (by omega)])
  have e1 : rdA (insB o a b c n) 0 = a := by rw [← byte_in a ha]; exact one_at _ 1 _ (by rw [ins_eight]; simp [byte_in a ha])
  have e2 : rdB (insB o a b c n) 0 = b := by rw [← byte_in b hb]; exact one_at _ 2 _ (by rw [ins_eight]; simp [byte_in b hb])
  have e3 : rdC (insB o a b c n) 0 = c := by rw [← byte_in c hc]; exact one_at _ 3 _ (by rw [ins_eight]; simp [byte_in c hc])
  have e4 : rdN (insB o a b c n) 0 = n := by
    unfold rdN
    rw [ins_eight, four_at, num_four n hn]
  unfold gotI gotE
  rw [(ins_fits o a b c n).1, e0, e1, e2, e3, e4, h]
  exact ⟨by simp, by simp⟩

/-- Another operand. -/
theorem with_other (o a b c n i m : Int) : ∃ a' b' c' n', withV o a b c n i m = #[.int .i64 o, .int .i64 a', .int .i64 b', .int .i64 c', .int .i64 n'] ∧ (∀ k, ¬ k = i → opdV a' b' c' n' k = opdV a b c n k) ∧
    withV o a' b' c' n' i (opdV a b c n i) = #[.int .i64 o, .int .i64 a, .int .i64 b, .int .i64 c, .int .i64 n] := by
  rcases four i with h | h | rfl | rfl | rfl | rfl
  · exact ⟨a, b, c, n, with_out _ _ _ _ _ _ _ (.inl h), fun _ _ => rfl, with_out _ _ _ _ _ _ _ (.inl h)⟩
  · exact ⟨a, b, c, n, with_out _ _ _ _ _ _ _ (.inr h), fun _ _ => rfl, with_out _ _ _ _ _ _ _ (.inr h)⟩
  · refine ⟨m, b, c, n, rfl, fun k hk => ?_, rfl⟩
    unfold opdV; rw [if_neg hk, if_neg hk]
  · refine ⟨a, m, c, n, rfl, fun k hk => ?_, rfl⟩
    unfold opdV; rw [if_neg hk, if_neg hk]
  · refine ⟨a, b, m, n, rfl, fun k hk => ?_, rfl⟩
    unfold opdV; rw [if_neg hk, if_neg hk]
  · refine ⟨a, b, c, m, rfl, fun k hk => ?_, rfl⟩
    unfold opdV; rw [if_neg hk, if_neg hk]
end Go.Proofs.YtieacapdfeljfaaDoor.By
