/-
  GRAPHS OF THE CALL's OWN: rows of its own, each in a block of its own; a row that is put anew.
-/
import Derived.Test.YtfgnlemoodfgoaaGa
import Derived.Test.YtfgnlemoodfgoaaZb
import Derived.Laws.MakeOwn
namespace Go.Proofs.Ytfgnlemoodfgoaa.By
open Go.RowKit
open Mem Gm Rf

/-- Rows of the call's own, whose values lie in block rb. -/
def OwnG (w : World) (rb base : Nat) (T E : TypeId) (L : List (List Int)) : Prop :=
  ∃ rs : List Value, rs.length = L.length ∧ Blk w rb T rs.toArray ∧ (∀ (i : Nat) rv, rs[i]? = some rv → w.ownsRow base E 1 rv (rowOf L i).length (ints (rowOf L i))) ∧
    ∀ (i j : Nat) rv rv', i ≠ j → rs[i]? = some rv → rs[j]? = some rv' → rv.ownBlock = none ∨ rv.ownBlock ≠ rv'.ownBlock

section
variable {w w' : World} {rb base : Nat} {T E : TypeId} {L : List (List Int)}

theorem own_keep {v : Value} {n : Nat} {xs : List Value} (h : w.ownsRow base E 1 v n xs) (hk : ∀ g, base ≤ g → g < w.heap.size → v.ownBlock = some g → w'.heap[g]? = w.heap[g]?) : w'.ownsRow base E 1 v n xs := by
  obtain ⟨h1, h2⟩ := h
  refine ⟨h1, ?_⟩
  rcases h2 with h2 | ⟨g, cap, cur, hv, hb, hg, r⟩
  · exact .inl h2
  · exact .inr ⟨g, cap, cur, hv, hb, (hk g hb (Array.getElem?_eq_some_iff.1 hg).1 (by rw [hv]; rfl)).trans hg, r⟩

theorem OwnG.keep (h : OwnG w rb base T E L) (hk : ∀ g, (g = rb ∨ base ≤ g) → g < w.heap.size → w'.heap[g]? = w.heap[g]?) : OwnG w' rb base T E L := by
  obtain ⟨rs, h1, h2, h3, h4⟩ := h
  exact ⟨rs, h1, (hk rb (.inl rfl) h2.lt).trans h2, fun i rv hi => own_keep (h3 i rv hi) fun g hg hl _ => hk g (.inr hg) hl, h4⟩

theorem OwnG.lt (h : OwnG w rb base T E L) : rb < w.heap.size := by obtain ⟨rs, _, h2, _⟩ := h; exact h2.lt

theorem rowOf_set {l : List Int} {a i : Nat} (ha : a < L.length) : rowOf (L.set a l) i = if i = a then l else rowOf L i := by
  unfold rowOf
  rw [List.getD_eq_getElem?_getD, List.getElem?_set]
  by_cases h : a = i
  · subst h; simp [ha]
  · rw [if_neg h, if_neg (fun e => h e.symm), List.getD_eq_getElem?_getD]

/-- What there is to take of a place's row, and how it is put anew. -/
theorem OwnG.at_ (h : OwnG w rb base T E L) (hrb : rb < base) {a : Nat} (ha : a < L.length) : ∃ rv, w.cell? ⟨rb, a, none⟩ = some rv ∧ w.frozen? ⟨rb, a, none⟩ = false ∧ rv.oneCell' = true ∧
    w.ownsRow base E 1 rv (rowOf L a).length (ints (rowOf L a)) ∧ (∃ A c, rv = .slice A (rowOf L a).length c) ∧
    ∀ (rv' : Value) (l : List Int) (w1 : World) , rv'.oneCell' = true → w1.ownsRow base E 1 rv' l.length (ints l) → (rv'.ownBlock = none ∨ rv'.ownBlock = rv.ownBlock ∨ ∃ k, rv'.ownBlock = some k ∧ w.heap.size ≤ k) →
      (∀ g, (g = rb ∨ base ≤ g) → g < w.heap.size → rv.ownBlock ≠ some g → w1.heap[g]? = w.heap[g]?) → OwnG (w1.setCell ⟨rb, a, none⟩ rv') rb base T E (L.set a l) := by
  obtain ⟨rs, h1, h2, h3, h4⟩ := h
  have har : a < rs.length := by omega
  have hget : rs[a]? = some rs[a] := List.getElem?_eq_getElem har
  have hown := h3 a _ hget
  refine ⟨rs[a], by rw [h2.cell, List.getElem?_toArray, hget], h2.frozen a, ?_, hown, ?_, ?_⟩
  · rcases hown.2 with ⟨e, _⟩ | ⟨g, cap, cur, e, _⟩ <;> rw [e] <;> rfl
  · rcases hown.2 with ⟨e, e2⟩ | ⟨g, cap, cur, e, _⟩
    · exact ⟨none, 0, by rw [e, e2]⟩
    · exact ⟨_, _, e⟩
  intro rv' l w1 hone hown' hplace hk
  have hne : rs[a].ownBlock ≠ some rb := fun e => by
    have := (hown.lt rb e).1; omega
  have hblk : Blk w1 rb T rs.toArray := (hk rb (.inl rfl) h2.lt hne).trans h2
  have hb' : Blk (w1.setCell ⟨rb, a, none⟩ rv') rb T (rs.set a rv').toArray := by
    have := hblk.stored a rv'
    rwa [List.setIfInBounds_toArray] at this
  have hset : ∀ (i : Nat) x, (rs.set a rv')[i]? = some x → (i = a ∧ x = rv') ∨ (i ≠ a ∧ rs[i]? = some x) := fun i x hx => by
    rw [List.getElem?_set] at hx
    by_cases e : a = i
    · subst e; rw [if_pos rfl, if_pos har] at hx; left; exact ⟨rfl, (Option.some.inj hx).symm⟩
    · rw [if_neg e] at hx; exact .inr ⟨fun e' => e e'.symm, hx⟩
  refine ⟨rs.set a rv', by simp [h1], hb', fun i x hx => ?_, fun i j x y hij hx hy => ?_⟩
  · rw [rowOf_set ha]
    rcases hset i x hx with ⟨rfl, rfl⟩ | ⟨hi, hx⟩
    · rw [if_pos rfl]
      refine own_keep hown' fun g hg _ _ => Below.heap_setCell _ _ _ _ ?_
      show g ≠ rb; omega
    · rw [if_neg hi]
      have hx' := h3 i x hx
      refine own_keep hx' fun g hg hl he => ?_
      rw [Below.heap_setCell _ _ _ _ (show g ≠ rb by omega)]
      refine hk g (.inr hg) hl fun e => ?_
      rcases h4 a i _ _ (fun e => hi e.symm) hget hx with h5 | h5
      · rw [h5] at e; cases e
      · exact h5 (e.trans he.symm)
  · have key : ∀ (k : Nat) z, k ≠ a → rs[k]? = some z → rv'.ownBlock = none ∨ rv'.ownBlock ≠ z.ownBlock := fun k z hk hz => by
      rcases hplace with h5 | h5 | ⟨q, h5, h6⟩
      · exact .inl h5
      · rw [h5]; exact h4 a k _ _ (fun e => hk e.symm) hget hz
      · right
        rw [h5]
        intro e
        have := ((h3 k z hz).lt q e.symm).2
        omega
    have hi0 := hset i x hx
    have hj0 := hset j y hy
    clear hx hy
    rcases hi0 with ⟨ei, ex⟩ | ⟨hi, hx⟩
    · rcases hj0 with ⟨ej, _⟩ | ⟨hj, hy⟩
      · exact absurd (ei.trans ej.symm) hij
      · rw [ex]; exact key j y hj hy
    · rcases hj0 with ⟨_, ey⟩ | ⟨hj, hy⟩
      · rw [ey]
        rcases key i x hi hx with h5 | h5
        · rw [h5]
          cases e : x.ownBlock with
          | none => exact .inl rfl
          | some q => right; simp
        · exact .inr fun e => h5 e.symm
      · exact h4 i j x y hij hx hy

/-- Of the call's own, it is one that can be read. -/
theorem OwnG.gr (h : OwnG w rb base T E L) (cap : Nat) (hc : L.length ≤ cap) (hm : cap ≤ maxLen) : Gr w w.heap.size (.slice (some ⟨rb, 0, none⟩) L.length cap) L := by
  obtain ⟨rs, h1, h2, h3, h4⟩ := h
  refine ⟨rs, ?_, h1, fun i rv hi => ?_⟩
  · rw [← h1]
    refine .at_ _ _ rs (by omega) hm fun j u hu => ⟨h2.lt, ?_⟩
    rw [add_plain, Nat.zero_add, h2.cell, List.getElem?_toArray, hu]
  · have hs := SlV.of_own (h3 i rv hi)
    rcases (h3 i rv hi).2 with ⟨e, e2⟩ | ⟨g, c, cur, e, _⟩
    · exact ⟨none, 0, by rw [e, e2], hs⟩
    · exact ⟨_, _, e, hs⟩

theorem slv_kept {v : Value} {n : Nat} {vs : List Value} (h : w.ownsRow base E 1 v n vs) (hk : ∀ g, base ≤ g → g < w.heap.size → v.ownBlock = some g → w'.heap[g]? = w.heap[g]?) : SlV w' w.heap.size v vs := by
  have h2 := SlV.of_own h
  rcases h.2 with ⟨rfl, _⟩ | ⟨g, cap, cur, rfl, hb, hg, _⟩
  · have := h2.inv
    rcases this with ⟨_, _, _, e⟩ | ⟨ad, e, _⟩
    · rw [e]; exact .nil
    · cases e
  · rcases h2.inv with ⟨e, _⟩ | ⟨ad, e, h3, h4, h5, hr⟩
    · cases e
    · injection e with e
      subst e
      rw [h3]
      exact .at_ _ _ _ (by omega) h5 fun j u hu => ⟨(hr j u hu).1, (World.cell?_of_block (w := w) (by rw [add_block]; exact hk g hb (Array.getElem?_eq_some_iff.1 hg).1 rfl)).trans (hr j u hu).2⟩

/-- .. and so it is where its rows are as they were. -/
theorem OwnG.gr_kept (h : OwnG w rb base T E L) (cap : Nat) (hc : L.length ≤ cap) (hm : cap ≤ maxLen) (hk : ∀ g, (g = rb ∨ base ≤ g) → g < w.heap.size → w'.heap[g]? = w.heap[g]?) : Gr w' w.heap.size (.slice (some ⟨rb, 0, none⟩) L.length cap) L := by
  obtain ⟨rs, h1, h2, h3, h4⟩ := h
  refine ⟨rs, ?_, h1, fun i rv hi => ?_⟩
  · rw [← h1]
    refine .at_ _ _ rs (by omega) hm fun j u hu => ⟨h2.lt, ?_⟩
    have h2' : Blk w' rb T rs.toArray := (hk rb (.inl rfl) h2.lt).trans h2
    rw [add_plain, Nat.zero_add, h2'.cell, List.getElem?_toArray, hu]
  · have hs := slv_kept (w' := w') (h3 i rv hi) fun g hg hl _ => hk g (.inr hg) hl
    rcases (h3 i rv hi).2 with ⟨e, e2⟩ | ⟨g, c, cur, e, _⟩
    · exact ⟨none, 0, by rw [e, e2], hs⟩
    · exact ⟨_, _, e, hs⟩

theorem OwnG.start (w : World) (n : Nat) (base : Nat) (h : Blk w rb T (Array.replicate n (.slice none 0 0))) : OwnG w rb base T E (List.replicate n []) := by
  refine ⟨List.replicate n (.slice none 0 0), by simp, by simpa using h, fun i rv hi => ?_, fun i j rv rv' _ hi _ => .inl ?_⟩
  · have := List.mem_of_getElem? hi
    rw [List.mem_replicate] at this
    rw [this.2]
    have h0 : rowOf (List.replicate n []) i = [] := by
      unfold rowOf; rw [List.getD_eq_getElem?_getD, List.getElem?_replicate]; split <;> rfl
    rw [h0]
    exact World.ownsRow_nil _ _ _ _
  · have := List.mem_of_getElem? hi
    rw [List.mem_replicate] at this
    rw [this.2]; rfl
end

/-- Where a row lies that was appended to: where it lay, or in a new block. -/
theorem append_where {P : Program} (w : World) (base : Nat) (t ty e : TypeId) (i : TypeInfo) (z : Value) (size bytes : Nat) (ht : P.underlying t = some (.slice e)) (hi : P.info? e = some i) (hz : i.zero = some z)
    (hsize : i.size = size) (hby : i.bytes = bytes)
    (v : Value) (n : Nat) (xs : List Value) (hown : w.ownsRow base e size v n xs)
    (a : Addr) (m c : Nat) (news : List Value) (hm : 0 < m) (hl : news.length = m * size) (hnews : ∀ j u, news[j]? = some u → w.cell? (a.add j) = some u) (h1 : ∀ u ∈ news, u.oneCell' = true)
    (h63 : n + m ≤ maxLen) (hbytes : (n + m) * bytes ≤ 140737488355328) {v' : Value} {w' : World} (hr : (Builtin.append_ #[t, t] ty #[v, .slice (some a) m c]).run P w = .ok v' w') :
    v'.ownBlock = v.ownBlock ∨ v'.ownBlock = some w.heap.size := by
  subst hsize hby
  have hsmall : n + m ≤ 9223372036854775807 := by simp only [maxLen] at h63; omega
  rcases hown.2 with ⟨rfl, rfl⟩ | ⟨g, cap, cur, rfl, hbg, hg, hnc, hcm, hcs, htake⟩
  · have h2 := run_append_nil (P := P) w t ty e i z ht hi hz a m c news hl hnews hm (by omega) (by have hb := hbytes; simp only [Nat.zero_add] at hb; omega)
    rw [hr] at h2
    injection h2 with h2
    right; rw [h2]; rfl
  · by_cases hroom : n + m ≤ cap
    · have hfit : n * i.size + news.length ≤ cur.size := by rw [hl, hcs, ← Nat.add_mul]; exact Nat.mul_le_mul_right _ hroom
      have h2 := run_append_room (P := P) w t ty e i ht hi g n cap cur hg a m c news hl hnews h1 hroom hfit
      rw [hr] at h2
      injection h2 with h2
      left; rw [h2]; rfl
    · have holds : ∀ j u, xs[j]? = some u → w.cell? ((⟨g, 0, none⟩ : Addr).add j) = some u := hown.cells (g := g) rfl
      have h2 := run_append_grow (P := P) w t ty e i z ht hi hz ⟨g, 0, none⟩ n cap xs hown.1 holds a m c news hl hnews (by omega) (by omega) (growslice_fits (by omega) hbytes)
      rw [hr] at h2
      injection h2 with h2
      right; rw [h2]; rfl

/-- append as one step of a region, with where it lies. -/
theorem step_append_where {P : Program} {ops : Array Oper} {o : Oper} {a : Act} {w : World} {K : Act → World → Prop} {Q : Exit → Act → World → Prop} {Z : Prop}
    (hgd : o.guard = none) (s x : Operand) (t : TypeId) (ho : o.op = .call { callee := .builtin .append, args := #[s, x], argTypes := #[t, t] })
    (base : Nat) (e : TypeId) (i : TypeInfo) (z : Value) (bytes : Nat) (ht : P.underlying t = some (.slice e)) (hi : P.info? e = some i) (hz : i.zero = some z)
    (hsize : i.size = 1) (hby : i.bytes = bytes) (hzs : z.cells.size = 1)
    (v : Value) (n : Nat) (xs : List Value) (hs : a.eval s = v) (hown : w.ownsRow base e 1 v n xs)
    (ad : Addr) (c : Nat) (u : Value) (hx : a.eval x = .slice (some ad) 1 c) (hu : w.cell? ad = some u) (h1 : u.oneCell' = true)
    (h63 : n + 1 ≤ maxLen) (hbytes : (n + 1) * bytes ≤ 140737488355328) (hbase : base ≤ w.heap.size)
    (hK : ∀ v' w', w'.ownsRow base e 1 v' (n + 1) (xs ++ [u]) → w.grownBy w' v.ownBlock → (v'.ownBlock = v.ownBlock ∨ v'.ownBlock = some w.heap.size) → K (a.put o.dst v') w') :
    if Region.wanted o (yielded ops a.tmps) = true then Oper.wp P o a w K Q else Z := by
  have hw : Region.wanted o (yielded ops a.tmps) = true := by simp [Region.wanted, hgd]
  rw [if_pos hw]
  have hnews : ∀ j y, [u][j]? = some y → w.cell? (ad.add j) = some y := fun j y hy => by
    cases j with
    | zero => simp at hy; subst hy; simpa [Addr.add] using hu
    | succ j => simp at hy
  have h1' : ∀ y ∈ [u], y.oneCell' = true := fun y hy => by rw [List.mem_singleton] at hy; subst hy; exact h1
  obtain ⟨v', w', hr, h2, h3, h4⟩ := run_append_own (P := P) w base t o.type e i z 1 bytes ht hi hz hsize hby hzs (by decide) v n xs hown ad 1 c [u] rfl hnews h1' h63 hbytes hbase
  have h5 := append_where (P := P) w base t o.type e i z 1 bytes ht hi hz hsize hby v n xs hown ad 1 c [u] (by decide) rfl hnews h1' h63 hbytes hr
  unfold Oper.wp execOp
  simp only [ho, resolve, invoke, builtin, Sem.run_bind, Sem.run_pure, Result.andThen_ok, List.map_toArray, List.map_cons, List.map_nil, hs, hx, hr]
  exact hK v' w' h2 h3 h5
end Go.Proofs.Ytfgnlemoodfgoaa.By
