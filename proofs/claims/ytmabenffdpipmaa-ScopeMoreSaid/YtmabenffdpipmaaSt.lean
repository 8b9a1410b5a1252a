/-
  LAW of layer 23: ScopeTurned.
-/
import Derived.Test.YtmabenffdpipmaaSs
import Derived.Laws.OwnMore
import Derived.Laws.AppendOwn
import Derived.Laws.AppendOwnNone
namespace Go.Proofs.Ytmabenffdpipmaa.By
open Go.RowKit Go.Maps
open Mem Rf
set_option linter.unusedSimpArgs false
set_option linter.unusedVariables false

theorem info_split {P : Program} {t : TypeId} {z : Value} {s b : Nat} (h : (P.info? t).map (fun i => (i.zero, i.size, i.bytes)) = some (some z, s, b)) : ∃ i, P.info? t = some i ∧ i.zero = some z ∧ i.size = s ∧ i.bytes = b := by
  obtain ⟨i, hi, e⟩ := Option.map_eq_some_iff.1 h
  injection e with e1 e2
  injection e2 with e2 e3
  exact ⟨i, hi, e1, e2, e3⟩
theorem infoOb : (Try.prog.info? 40).map (fun i => (i.zero, i.size, i.bytes)) = some (some (.agg #[.slice none 0 0, .slice none 0 0, .slice none 0 0]), 3, 72) := by kernel_rfl
theorem infoSy : (Try.prog.info? 42).map (fun i => (i.zero, i.size, i.bytes)) = some (some (.agg #[.string ⟨#[]⟩, .bool false, .int .i64 0, .int .i64 0, .int .i64 0]), 5, 48) := by kernel_rfl

theorem own_keep1 {w w' : World} {base n k : Nat} {E : TypeId} {v : Value} {xs : List Value} (h : w.ownsRow base E k v n xs) (hk : ∀ g, base ≤ g → g < w.heap.size → v.ownBlock = some g → w'.heap[g]? = w.heap[g]?) : w'.ownsRow base E k v n xs := by
  obtain ⟨h1, h2⟩ := h
  refine ⟨h1, ?_⟩
  rcases h2 with h2 | ⟨g, cap, cur, hv, hb, hg, r⟩
  · exact .inl h2
  · exact .inr ⟨g, cap, cur, hv, hb, (hk g hb (Array.getElem?_eq_some_iff.1 hg).1 (by rw [hv]; rfl)).trans hg, r⟩
theorem flat_len {α : Type} {k : Nat} {enc : α → List Value} (hk : ∀ x, (enc x).length = k) (l : List α) : (l.flatMap enc).length = l.length * k := by
  induction l with
  | nil => simp
  | cons y l ih => rw [List.flatMap_cons, List.length_append, ih, hk, List.length_cons, Nat.add_mul]; omega
theorem wd_own {α : Type} {k : Nat} {enc : α → List Value} {w : World} {base n : Nat} {e : TypeId} {v : Value} {l : List α} (hk : ∀ x, (enc x).length = k) (hl : l.length = n) (h : w.ownsRow base e k v n (l.flatMap enc)) : ∃ A c, v = .slice A n c ∧ Wd k enc w w.heap.size A n c l := by
  have h2 := h.2
  rcases h2 with ⟨rfl, rfl⟩ | ⟨g, cap, cur, rfl, hb, hg, hc, hm, hs, ht⟩
  · have : l = [] := List.eq_nil_of_length_eq_zero hl
    subst this
    exact ⟨none, 0, rfl, Wd.nil⟩
  · refine ⟨_, cap, rfl, hl, hc, hm, fun e => by simp at e, fun i x hi => ⟨_, rfl, (Array.getElem?_eq_some_iff.1 hg).1, fun j u hu => ?_⟩⟩
    rw [add_twice]
    exact h.cells (g := g) rfl _ _ (flat_at hk l i j x u hi hu)
theorem flat_of {α : Type} {k : Nat} {enc : α → List Value} (hk0 : 0 < k) (hk : ∀ x, (enc x).length = k) : ∀ (l : List α) (j : Nat) (u : Value), (l.flatMap enc)[j]? = some u → ∃ x, l[j / k]? = some x ∧ (enc x)[j % k]? = some u
  | [], j, u, h => by simp at h
  | a :: l, j, u, h => by
    rw [List.flatMap_cons] at h
    by_cases hj : j < k
    · rw [List.getElem?_append_left (by rw [hk]; exact hj)] at h
      exact ⟨a, by rw [Nat.div_eq_of_lt hj]; rfl, by rw [Nat.mod_eq_of_lt hj]; exact h⟩
    · rw [List.getElem?_append_right (by rw [hk]; omega), hk] at h
      obtain ⟨x, h1, h2⟩ := flat_of hk0 hk l (j - k) u h
      have e1 : j / k = (j - k) / k + 1 := by rw [Nat.div_eq_sub_div hk0 (by omega)]
      have e2 : j % k = (j - k) % k := Nat.mod_eq_sub_mod (by omega)
      exact ⟨x, by rw [e1]; simpa using h1, by rw [e2]; exact h2⟩
theorem wpList_append_wd {α : Type} {enc : α → List Value} {P : Program} (w : World) {ops : Array Oper} {rest : List Oper} {o : Oper} {a : Act} {Q : Exit → Act → World → Prop} (hgd : o.guard = none) (s x : Operand) (t : TypeId)
    (ho : o.op = .call { callee := .builtin .append, args := #[s, x], argTypes := #[t, t] })
    (base : Nat) (e : TypeId) (i : TypeInfo) (z : Value) (k bytes : Nat) (ht : P.underlying t = some (.slice e)) (hi : P.info? e = some i) (hz : i.zero = some z)
    (hsize : i.size = k) (hby : i.bytes = bytes) (hzs : z.cells.size = k) (hk0 : 0 < k) (hk : ∀ x, (enc x).length = k) (h1 : ∀ x, ∀ u ∈ enc x, u.oneCell' = true)
    (v : Value) (n0 : Nat) (xs : List Value) (hs : a.eval s = v) (hown : w.ownsRow base e k v n0 xs)
    (A : Option Addr) (m c : Nat) (l : List α) (hx : a.eval x = .slice A m c) (hr : Wd k enc w w.heap.size A m c l)
    (h63 : n0 + m ≤ maxLen) (hbytes : (n0 + m) * bytes ≤ 140737488355328) (hbase : base ≤ w.heap.size)
    (h : ∀ v' w', w'.ownsRow base e k v' (n0 + m) (xs ++ l.flatMap enc) → w.grownBy w' v.ownBlock → wpList P ops Q rest (a.put o.dst v') w') : wpList P ops Q (o :: rest) a w := by
  cases A with
  | none =>
    have hc : c = 0 := hr.2.2.2.1 rfl
    have hm : m = 0 := by have := hr.2.1; omega
    have hl : l = [] := List.length_eq_zero_iff.1 (by rw [hr.1, hm])
    subst hc hm hl
    refine wpList_append_own_none hgd s x t ho base e i k ht hi v n0 xs hs hown hx ?_
    exact h v w (by simpa using hown) ⟨rfl, rfl, rfl, Nat.le_refl _, fun _ _ _ => rfl⟩
  | some ad =>
    refine wpList_append_own w hgd s x t ho base e i z k bytes ht hi hz hsize hby hzs hk0 v n0 xs hs hown ad m c (l.flatMap enc) hx (by rw [flat_len hk, hr.1]) (fun j u hu => ?_) (fun u hu => ?_) h63 hbytes hbase ?_
    · obtain ⟨y, e1, e2⟩ := flat_of hk0 hk l j u hu
      obtain ⟨ad', ea, _, hcell⟩ := hr.2.2.2.2 _ y e1
      injection ea with ea
      subst ea
      have := hcell _ u e2
      rw [add_twice] at this
      rw [show j / k * k + j % k = j from by rw [Nat.mul_comm]; exact Nat.div_add_mod j k] at this
      exact this
    · obtain ⟨y, _, hy⟩ := List.mem_flatMap.1 hu
      exact h1 y u hy
    · intro v' w' h2 h3 _
      exact h v' w' h2 h3
theorem encOb_one : ∀ x, ∀ u ∈ encOb x, u.oneCell' = true := fun x u hu => by
  unfold encOb slV at hu
  simp at hu
  rcases hu with rfl | rfl | rfl <;> rfl
theorem encSy_one : ∀ x, ∀ u ∈ encSy x, u.oneCell' = true := fun x u hu => by
  unfold encSy at hu
  simp at hu
  rcases hu with rfl | rfl | rfl | rfl | rfl <;> rfl

/-! ### turned round -/
theorem obAt_rev {os : List Ob} {n i : Nat} (hl : os.length = n) (hi : i < n) : obAt os.reverse i = obAt os (n - 1 - i) := by
  unfold obAt
  rw [List.getD_eq_getElem?_getD, List.getD_eq_getElem?_getD, List.getElem?_reverse (by omega), hl]
theorem lists_rev (os : List Ob) : lists os.reverse = (lists os).reverse := by unfold lists; rw [List.map_reverse]
theorem take_more {os : List Ob} {n k : Nat} (hl : os.length = n) (hk : k < n) : os.reverse.take (k + 1) = os.reverse.take k ++ [obAt os (n - 1 - k)] := by
  have h : k < os.reverse.length := by rw [List.length_reverse]; omega
  rw [List.take_succ_eq_append_getElem h, ← obAt_rev hl hk]
  congr 2
  unfold obAt
  rw [List.getD_eq_getElem?_getD, List.getElem?_eq_getElem h]; rfl
theorem obL_rev {w w' : World} {B : Nat} {A A' : Option Addr} {n c c' : Nat} {os : List Ob} (h : ObL w B A n c os) (hB : B ≤ w.heap.size) (hb : Below w.heap.size w w') (h' : Wd 3 encOb w' w'.heap.size A' n c' os.reverse) : ObL w' w'.heap.size A' n c' os.reverse :=
  ⟨h', fun i hi => by rw [obAt_rev h.1.1 hi]; exact ((h.2 _ (by omega)).below (hb.mono hB)).more (Nat.le_trans hB hb.size)⟩
theorem nmp_rev {os : List Ob} {n : Nat} (hl : os.length = n) (h : NmP os) (h9 : n ≤ 9) (h60 : ∀ i, i < n → (obAt os i).l.length ≤ 60) : NmP os.reverse where
  names := fun x hx => by
    obtain ⟨a, b, e⟩ := mem_allS hx
    rw [lists_rev] at a b e
    have ha : x.1.1 < (lists os).length := by simpa using a
    have hf : (flip (lists os) x.1).1 < (lists os).length := by unfold flip; dsimp only; omega
    have hr := rowS_rev hf
    have he : (lists os).length - 1 - (flip (lists os) x.1).1 = x.1.1 := by unfold flip; dsimp only; omega
    rw [he] at hr
    have := h.names _ (allS_mem (L := lists os) (i := (flip (lists os) x.1).1) (k := x.1.2) hf (by rw [← hr]; exact b))
    dsimp only at this
    rw [e]
    unfold atS at this ⊢
    rwa [hr]
  many := by
    unfold allS
    rw [lists_rev, List.length_reverse, lists_length, hl]
    refine Nat.le_trans (flat_few (m := 60) n fun i hi => ?_) (by omega)
    have hf : n - 1 - i < (lists os).length := by rw [lists_length, hl]; omega
    have hr := rowS_rev hf
    have he : (lists os).length - 1 - (n - 1 - i) = i := by rw [lists_length, hl]; omega
    rw [he] at hr
    rw [rowL_length, hr, rowS_lists (by rw [hl]; omega)]
    exact h60 _ (by omega)
end Go.Proofs.Ytmabenffdpipmaa.By
