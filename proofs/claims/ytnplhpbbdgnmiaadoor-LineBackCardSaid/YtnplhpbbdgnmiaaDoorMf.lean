/-
  LINES OF INSTRUCTIONS, in plain mathematics: what Text makes is read back.
-/
import Derived.Test.YtnplhpbbdgnmiaaDoorMd
import Derived.Test.YtnplhpbbdgnmiaaDoorMa
namespace Go.Proofs.YtnplhpbbdgnmiaaDoor.Ln
open Go.RowKit
open Mem Go.Lib

theorem nums_back {v : Int} (h : I64 v) : numV (decB v) = (v, true) := numV_yes h rfl

/-- An operand's word is read as the operand. -/
theorem read_back {x : Nat} {v : Int} (h : I64 v) (hw : (wrV x v).2 = true) : rdV x (wrV x v).1 = (v, true) := by
  unfold wrV at hw ⊢
  unfold rdV
  by_cases hx : (x : Int) = 107
  · rw [if_pos hx] at hw ⊢
    rw [if_pos hx]
    simp only at hw ⊢
    have hv : 0 ≤ v ∧ v ≤ 7 := by simpa [Si.isC] using hw
    have hwr : wrap64 (1 + v) = 1 + v := by unfold wrap64; omega
    have ht : Si.textV (1 + v) = Si.txB (1 + v).toNat := by unfold Si.textV; rw [if_pos (by omega)]
    have hp := Si.par_hit (Si.txs.getD (1 + v).toNat []) (1 + v).toNat (by omega) rfl
    have hl : (Si.txB (1 + v).toNat).data.toList = Si.txs.getD (1 + v).toNat [] := by unfold Si.txB; simp
    rw [hwr, ht, hl, hp.1]
    have h1 : (((1 + v).toNat : Nat) : Int) = 1 + v := by omega
    rw [h1]
    unfold Si.clV Si.clB
    rw [if_pos (by omega)]
    refine Prod.ext ?_ ?_
    · show 1 + v - 1 = v; omega
    · show decide _ = true; exact decide_eq_true (by omega)
  · rw [if_neg hx] at hw ⊢
    rw [if_neg hx]
    exact nums_back h

theorem dec_wd {v : Int} (h : I64 v) : Wd (decB v).data.toList := by
  obtain ⟨h1, _, h3, h4, _⟩ := dec_facts h rfl
  have hne : (decB v).data.toList ≠ [] := fun e => by
    have := len_list (decB v)
    rw [e] at this; simp only [List.length_nil] at this; omega
  refine ⟨hne, fun hm => ?_⟩
  by_cases h45 : at_ (decB v) 0 = 45
  · have hf : body (decB v) = (decB v).data.toList.drop 1 := by unfold body frm; rw [if_pos h45]
    have h0 : (decB v).data.toList[0]? = some ((decB v)[0]'(by omega)) := at_list _ 0 (by omega)
    have hc : (decB v).data.toList = (decB v)[0]'(by omega) :: (decB v).data.toList.drop 1 := by
      have := drop_at h0
      simpa using this
    have h1 : ((decB v)[0]'(by omega)).toNat = 45 := by rw [← at_sk]; exact h45
    rw [hc] at hm
    rcases List.mem_cons.1 hm with e | hm
    · rw [← e] at h1; cases h1
    · rw [← hf] at hm
      have := digit_iff.1 (h4 _ hm)
      have h32 : (32 : UInt8).toNat = 32 := rfl
      omega
  · have hf : body (decB v) = (decB v).data.toList := by unfold body frm; rw [if_neg h45]; rfl
    rw [← hf] at hm
    have := digit_iff.1 (h4 _ hm)
    have h32 : (32 : UInt8).toNat = 32 := rfl
    omega

theorem text_wd : ∀ n : Int, 1 ≤ n → n ≤ 8 → Wd (Si.textV n).data.toList := by
  intro n h1 h2
  have h : ∀ i : Fin 9, (Si.txB i.val).data.toList ≠ [] ∧ (32 : UInt8) ∉ (Si.txB i.val).data.toList := by decide +kernel
  unfold Si.textV
  rw [if_pos (by omega)]
  exact h ⟨n.toNat, by omega⟩
theorem name_wd : ∀ n : Int, 1 ≤ n → n ≤ 28 → Wd (By.nmV n).data.toList := by
  intro n h1 h2
  have h : ∀ i : Fin 29, i.val ≠ 0 → ((By.nmB i.val).data.toList ≠ [] ∧ (32 : UInt8) ∉ (By.nmB i.val).data.toList) := by decide +kernel
  unfold By.nmV
  rw [if_pos (by omega)]
  exact h ⟨n.toNat, by omega⟩ (by show n.toNat ≠ 0; omega)

theorem wr_wd {x : Nat} {v : Int} (h : I64 v) (hw : (wrV x v).2 = true) : Wd (wrV x v).1.data.toList := by
  unfold wrV at hw ⊢
  by_cases hx : (x : Int) = 107
  · rw [if_pos hx] at hw ⊢
    simp only at hw ⊢
    have hv : 0 ≤ v ∧ v ≤ 7 := by simpa [Si.isC] using hw
    have hwr : wrap64 (1 + v) = 1 + v := by unfold wrap64; omega
    rw [hwr]
    exact text_wd _ (by omega) (by omega)
  · rw [if_neg hx]; exact dec_wd h

theorem wds_wd {a b c n : Int} (H : ∀ i : Int, I64 (By.opdV a b c n i)) : ∀ (r : List UInt8) (i : Nat) (ws : List ByteArray), wds a b c n i r = some ws → ∀ y ∈ ws, Wd y.data.toList
  | [], i, ws, h, y, hy => by
    rw [wds] at h; injection h with h; subst h; cases hy
  | x :: r, i, ws, h, y, hy => by
    rw [wds] at h
    split at h
    · exact wds_wd H r _ ws h y hy
    · split at h
      · rename_i hw
        cases hr : wds a b c n (i + 1) r with
        | none => rw [hr] at h; cases h
        | some ws2 =>
          rw [hr] at h
          simp only [Option.map_some, Option.some.injEq] at h
          subst h
          rcases List.mem_cons.1 hy with rfl | hy
          · exact wr_wd (H i) hw
          · exact wds_wd H r _ ws2 hr y hy
      · cases h

/-- What the operands are behind the letters that were read. -/
def setQ (a b c n : Int) : Nat → List UInt8 → Q → Q
  | _, [], q => q
  | i, x :: r, q => if x = 45 then setQ a b c n (i + 1) r q else setQ a b c n (i + 1) r (putQ q i (By.opdV a b c n i))

theorem rdL_wds {a b c n : Int} (H : ∀ i : Int, I64 (By.opdV a b c n i)) : ∀ (r : List UInt8) (i : Nat) (ws : List ByteArray) (q : Q), wds a b c n i r = some ws → rdL i r ws q = some (setQ a b c n i r q)
  | [], i, ws, q, h => by
    rw [wds] at h; injection h with h; subst h; rfl
  | x :: r, i, ws, q, h => by
    rw [wds] at h
    rw [setQ]
    by_cases hx : x = 45
    · rw [if_pos hx] at h ⊢
      subst hx
      rw [rdL_skip]
      exact rdL_wds H r _ ws q h
    · rw [if_neg hx] at h ⊢
      split at h
      · rename_i hw
        cases hr : wds a b c n (i + 1) r with
        | none => rw [hr] at h; cases h
        | some ws2 =>
          rw [hr] at h
          simp only [Option.map_some, Option.some.injEq] at h
          subst h
          rw [rdL_put _ _ _ _ _ hx, read_back (H i) hw, if_pos rfl]
          exact rdL_wds H r _ ws2 _ hr
      · cases h

theorem set_four {a b c n : Int} {x0 x1 x2 x3 : UInt8} (z0 : x0 = 45 → a = 0) (z1 : x1 = 45 → b = 0) (z2 : x2 = 45 → c = 0) (z3 : x3 = 45 → n = 0) : setQ a b c n 0 [x0, x1, x2, x3] (0, 0, 0, 0) = (a, b, c, n) := by
  have e0 : By.opdV a b c n ((0 : Nat) : Int) = a := rfl
  have e1 : By.opdV a b c n ((0 + 1 : Nat) : Int) = b := rfl
  have e2 : By.opdV a b c n ((0 + 1 + 1 : Nat) : Int) = c := rfl
  have e3 : By.opdV a b c n ((0 + 1 + 1 + 1 : Nat) : Int) = n := rfl
  have p0 : ∀ q v, putQ q 0 v = (v, q.2.1, q.2.2.1, q.2.2.2) := fun _ _ => rfl
  have p1 : ∀ q v, putQ q (0 + 1) v = (q.1, v, q.2.2.1, q.2.2.2) := fun _ _ => rfl
  have p2 : ∀ q v, putQ q (0 + 1 + 1) v = (q.1, q.2.1, v, q.2.2.2) := fun _ _ => rfl
  have p3 : ∀ q v, putQ q (0 + 1 + 1 + 1) v = (q.1, q.2.1, q.2.2.1, v) := fun _ _ => rfl
  simp only [setQ, e0, e1, e2, e3, p0, p1, p2, p3]
  by_cases k0 : x0 = 45 <;> by_cases k1 : x1 = 45 <;> by_cases k2 : x2 = 45 <;> by_cases k3 : x3 = 45
  all_goals
    (try have := z0 (by assumption))
    (try have := z1 (by assumption))
    (try have := z2 (by assumption))
    (try have := z3 (by assumption))
    simp_all

/-- An instruction that has a line is read of the line's words. -/
theorem line_back {o a b c n : Int} (H : ∀ i : Int, I64 (By.opdV a b c n i)) (h0 : By.chV o a b c n = 0) (ho : By.ownV o = true) {ws : List ByteArray} (hw : wds a b c n 0 (By.shV o).data.toList = some ws) :
    tgO (By.nmV o :: ws) = some (o, (a, b, c, n)) ∧ (∀ y ∈ By.nmV o :: ws, Wd y.data.toList) := by
  have ho2 : 1 ≤ o ∧ o ≤ 24 := by simpa [By.ownV] using ho
  obtain ⟨_, h2, h3⟩ := By.inside o (by omega)
  have hsh : ∃ x0 x1 x2 x3, By.shV o = ⟨#[x0, x1, x2, x3]⟩ := by
    rcases h3 with ⟨_, _, x0, x1, x2, x3, e⟩ | ⟨_, _, x0, x1, x2, e⟩ | ⟨e, _⟩
    · exact ⟨_, _, _, _, e⟩
    · exact ⟨_, _, _, _, e⟩
    · rw [ho] at e; cases e
  obtain ⟨x0, x1, x2, x3, e⟩ := hsh
  have hl : (By.shV o).data.toList = [x0, x1, x2, x3] := by rw [e]
  have hz : ∀ k, k < 4 → ¬ By.argV o a b c n k := by
    intro k hk hx
    by_cases hin : ∀ k, k < 4 → By.inV a b c n k
    · have := By.ch_arg (by omega) hin k hk hx
      rw [h0] at this; cases this
    · have : By.chV o a b c n = 9 := by
        unfold By.chV
        rw [if_neg (by omega), if_neg hin]
      rw [h0] at this; cases this
  have hz2 : ∀ k : Nat, k < 4 → (By.shV o).data.toList[k]? = some 45 → By.opdV a b c n k = 0 := fun k hk hx => by
    rcases Classical.em (By.opdV a b c n k = 0) with h | h
    · exact h
    · exact absurd ⟨hx, h⟩ (hz k hk)
  rw [hl] at hz2
  constructor
  · unfold tgO
    simp only
    rw [h2, if_neg (by rw [ho]; decide), rdL_wds H _ 0 ws _ hw, hl, set_four (a := a) (b := b) (c := c) (n := n) (x0 := x0) (x1 := x1) (x2 := x2) (x3 := x3) (fun h => hz2 0 (by omega) (by rw [h]; rfl)) (fun h => hz2 1 (by omega) (by rw [h]; rfl)) (fun h => hz2 2 (by omega) (by rw [h]; rfl)) (fun h => hz2 3 (by omega) (by rw [h]; rfl))]
    rfl
  · intro y hy
    rcases List.mem_cons.1 hy with rfl | hy
    · exact name_wd o (by omega) (by omega)
    · exact wds_wd H _ _ ws hw y hy

/-- Of words of which an instruction's line is made the instruction is parsed, with whatever blanks. -/
theorem parse_back {o a b c n : Int} (H : ∀ i : Int, I64 (By.opdV a b c n i)) (h0 : (txtV o a b c n).2 = 0) (t : ByteArray) (ht : wordsL t = wordsL (txtV o a b c n).1) : parV t = (insQ o (a, b, c, n), 0) := by
  have hch : By.chV o a b c n = 0 := by
    rcases Classical.em (By.chV o a b c n = 0) with h | h
    · exact h
    · unfold txtV at h0; rw [if_pos h] at h0; exact h0
  have hx : txtV o a b c n = if By.ownV o = false then (⟨#[]⟩, (8 : Int)) else match wds a b c n 0 (By.shV o).data.toList with | some ws => (joinB (By.nmV o :: ws), (0 : Int)) | none => (⟨#[]⟩, (9 : Int)) := by
    unfold txtV; rw [if_neg (by rw [hch]; decide)]; rfl
  cases ho : By.ownV o with
  | false => rw [hx, if_pos ho] at h0; cases h0
  | true =>
    rw [if_neg (by rw [ho]; decide)] at hx
    cases hw : wds a b c n 0 (By.shV o).data.toList with
    | none => rw [hx, hw] at h0; cases h0
    | some ws =>
      rw [hw] at hx
      obtain ⟨h1, h2⟩ := line_back H hch ho hw
      rw [hx] at ht
      simp only at ht
      rw [words_join, words_self h2] at ht
      rw [parV_tg, ht, h1]
      simp only
      rw [if_neg (by rw [hch]; decide)]
end Go.Proofs.YtnplhpbbdgnmiaaDoor.Ln
