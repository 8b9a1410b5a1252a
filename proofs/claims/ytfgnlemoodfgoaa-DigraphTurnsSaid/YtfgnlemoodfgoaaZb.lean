/-
  A REGION THAT DRAWS ITS ORDER IN A ROUND of a range over a function, of no program: what is shown of it elsewhere holds there. And a slice in the midst of a block of the call's own, appended to.
-/
import Derived.Test.YtfgnlemoodfgoaaZa
import Derived.Test.YtfgnlemoodfgoaaAp
import Derived.Deep.RegionHeld3
import Derived.OrdersIn
import Derived.TacticsIn
namespace Go.Proofs.Ytfgnlemoodfgoaa.Rf
open Go.RowKit

/-- It goes on, and in no other way. -/
def Only (Q : Exit → Act → World → Prop) : Exit → Act → World → Prop
  | .normal, a, w => Q .normal a w
  | _, _, _ => False

theorem Only.imp {Q : Exit → Act → World → Prop} : ∀ e a w, Only Q e a w → Q e a w
  | .normal, _, _, h => h
  | .exit _, _, _, h => h.elim
  | .goto _, _, _, h => h.elim
  | .ret, _, _, h => h.elim
  | .panic _, _, _, h => h.elim
  | .outgrown, _, _, h => h.elim

def noDefer (ops : Array Oper) : Bool := ops.all fun o => match o.op with | .defer _ => false | _ => true

theorem uponIn_of {P : Program} {l n : Nat} {o : Oper} {a : Act} {K : Act → World → Prop} {Q : Exit → Act → World → Prop} (r : Result Next) (h : o.upon P a K Q r) : o.uponIn (Fence.wide.inRound l) n P a K Q r := by
  match r, h with
  | .ok (.value _) _, h => exact h
  | .ok .skip _, h => exact h
  | .ok (.defer _) _, h => exact h
  | .ok (.enter f args) w', h =>
    refine ⟨fun e => (by cases e), CallsIn.inRound l (callsIn_wide.2 ?_)⟩
    exact h.mono fun e w'' he => by cases e <;> exact he
  | .ok (.row row args) w', h =>
    exact ⟨fun e => (by cases e), fun c cs _ => let ⟨v, w2, r, s⟩ := h c cs; ⟨v, w2, r, stepsIn_wide.2 s⟩⟩
  | .halt (.panic _) _, h => exact h

theorem opIn_of {P : Program} {l n i : Nat} {ops : Array Oper} (hd : noDefer ops = true) {a : Act} {w : World} {K : Act → World → Prop} {Q : Exit → Act → World → Prop} (h : wpOp P ops (Only Q) i K a w) : wpOpIn (Fence.wide.inRound l) n P ops (Only Q) i K a w := by
  unfold wpOp at h
  unfold wpOpIn
  split at h
  · rename_i e; rw [e]; exact h
  · rename_i o e
    rw [e]
    have hnd : ∀ c, o.op ≠ .defer c := fun c ec => by
      have := Array.all_eq_true_iff_forall_mem.1 hd o (Array.mem_of_getElem? e)
      rw [ec] at this; cases this
    simp only
    by_cases hw : Region.wanted o (yielded ops a.tmps) = true
    · rw [if_pos hw] at h ⊢
      rcases h with h | ⟨_, a', w', h⟩
      · refine ⟨fun _ _ => trivial, ?_⟩
        have : o.semAt (Fence.wide.inRound l).round a.eval = execOp a.eval o := Oper.semAt_some l _ _ hnd
        rw [this]
        exact uponIn_of _ h
      · exact h.elim
    · rw [if_neg hw] at h ⊢
      exact ⟨fun _ _ => trivial, h⟩

theorem anyIn_of {P : Program} {l n : Nat} {ops : Array Oper} (hd : noDefer ops = true) {Q : Exit → Act → World → Prop} : ∀ (f : Nat) (listed : Array Bool) (a : Act) (w : World), wpAny P .any ops (Only Q) f listed a w → wpAnyIn (Fence.wide.inRound l) n P .any ops (Only Q) f listed a w
  | 0, _, _, _, h => h
  | f + 1, _, _, _, h => ⟨h.1, fun i hi => opIn_of hd (wpOp_mono (fun a' w' h' => anyIn_of hd f _ a' w' h') (h.2 i hi))⟩

theorem wpIn_region_round {P : Program} {id l n : Nat} {ops : Array Oper} {S : World → Prop} {Q : Exit → Act → World → Prop} {a : Act} {w : World} (hm : P.follows .mixedOrders = true) (hd : noDefer ops = true)
    (h : wpAnyH P .any ops (Only Q) S ops.size (Array.replicate ops.size false) a w.drew) : (Code.region id ops true).wpIn (Fence.wide.inRound l) n P Q a w :=
  wpIn_mono (wpIn_region_any hm (anyIn_of hd _ _ _ _ (wpAny_of_held _ _ _ _ h))) Only.imp

/-- A slice value of n elements of size cells each, which lie somewhere in a block from L on that holds nothing else that counts; or one with no room at all. -/
def Mid (w : World) (L : Nat) (e : TypeId) (size : Nat) (v : Value) (n : Nat) (xs : List Value) : Prop :=
  xs.length = n * size ∧ ∃ a cap, v = .slice a n cap ∧ n ≤ cap ∧ cap ≤ maxLen ∧
    ((cap = 0 ∧ (a = none ∨ ∃ ad, a = some ad)) ∨ ∃ g off cur, a = some ⟨g, off, none⟩ ∧ L ≤ g ∧ w.heap[g]? = some (.cells cur e (0, 0)) ∧ off + cap * size ≤ cur.size ∧ ∀ j u, xs[j]? = some u → cur[off + j]? = some u)

section
variable {P : Program} {w w' : World} {L e size n : Nat} {v : Value} {xs : List Value}

theorem Mid.nil (w : World) (L : Nat) (e : TypeId) (size : Nat) : Mid w L e size (.slice none 0 0) 0 [] := ⟨by simp, none, 0, rfl, Nat.le_refl _, Nat.zero_le _, .inl ⟨rfl, .inl rfl⟩⟩

theorem Mid.keep (h : Mid w L e size v n xs) (hk : ∀ g, L ≤ g → g < w.heap.size → w'.heap[g]? = w.heap[g]?) : Mid w' L e size v n xs := by
  obtain ⟨h1, a, cap, hv, hn, hm, h2⟩ := h
  refine ⟨h1, a, cap, hv, hn, hm, ?_⟩
  rcases h2 with h2 | ⟨g, off, cur, ha, hL, hg, hs, hx⟩
  · exact .inl h2
  · exact .inr ⟨g, off, cur, ha, hL, (hk g hL (Array.getElem?_eq_some_iff.1 hg).1).trans hg, hs, hx⟩

/-- Its first element's cells. -/
theorem Mid.front (h : Mid w L e size v n xs) (hn : 0 < n) : ∃ g off cap, v = .slice (some ⟨g, off, none⟩) n cap ∧ n ≤ cap ∧ cap ≤ maxLen ∧ L ≤ g ∧ g < w.heap.size ∧ ∀ j u, xs[j]? = some u → w.cell? ⟨g, off + j, none⟩ = some u := by
  obtain ⟨_, a, cap, rfl, hc, hm, h2⟩ := h
  rcases h2 with ⟨h2, _⟩ | ⟨g, off, cur, rfl, hL, hg, hs, hx⟩
  · omega
  · exact ⟨g, off, cap, rfl, hc, hm, hL, (Array.getElem?_eq_some_iff.1 hg).1, fun j u hu => by rw [cell_of_row w g _ cur e (0, 0) hg]; exact hx j u hu⟩

/-- Without its first element. -/
theorem Mid.tail {g off cap : Nat} (h : Mid w L e size (.slice (some ⟨g, off, none⟩) (n + 1) cap) (n + 1) xs) :
    Mid w L e size (.slice (if cap = 1 then some ⟨g, off, none⟩ else some ⟨g, off + size, none⟩) n (cap - 1)) n (xs.drop size) := by
  obtain ⟨h1, a, cap', hv, hc, hm, h2⟩ := h
  injection hv with e1 e2 e3
  subst e1 e3
  refine ⟨by rw [List.length_drop, h1, Nat.add_mul]; omega, _, _, rfl, by omega, by omega, ?_⟩
  rcases h2 with ⟨h2, _⟩ | ⟨g', off', cur, ha, hL, hg, hs, hx⟩
  · omega
  · injection ha with ha
    injection ha with ha1 ha2
    subst ha1 ha2
    by_cases hc1 : cap = 1
    · rw [if_pos hc1]; exact .inl ⟨by omega, .inr ⟨_, rfl⟩⟩
    · rw [if_neg hc1]
      refine .inr ⟨g, off + size, cur, rfl, hL, hg, ?_, fun j u hu => ?_⟩
      · have : cap * size = (cap - 1) * size + size := by
          rw [show cap = (cap - 1) + 1 by omega, Nat.add_mul, Nat.one_mul, Nat.add_sub_cancel]
        omega
      · rw [List.getElem?_drop] at hu
        rw [Nat.add_assoc]; exact hx _ u hu

theorem run_append_midroom (w : World) (t ty e : TypeId) (i : TypeInfo) (ht : P.underlying t = some (.slice e)) (hi : P.info? e = some i)
    (g off sLen sCap : Nat) (cur : Array Value) (hg : w.heap[g]? = some (.cells cur e (0, 0)))
    (a : Addr) (m c : Nat) (news : List Value) (hl : news.length = m * i.size) (hnews : ∀ j u, news[j]? = some u → w.cell? (a.add j) = some u) (h1 : ∀ u ∈ news, u.oneCell' = true)
    (hroom : sLen + m ≤ sCap) (hfit : off + sLen * i.size + news.length ≤ cur.size) :
    (Builtin.append_ #[t, t] ty #[.slice (some ⟨g, off, none⟩) sLen sCap, .slice (some a) m c]).run P w =
      .ok (.slice (some ⟨g, off, none⟩) (sLen + m) sCap) (w.setRow g (cur.toList.take (off + sLen * i.size) ++ news ++ cur.toList.drop (off + sLen * i.size + news.length)).toArray) := by
  have hf := run_firstCells_some (P := P) w i.size m a m c news hl hnews
  have hst := run_storeCells_at P g (off + sLen * i.size) e news 0 cur w hg (by simpa using hfit) h1
  have hadd : (⟨g, off, none⟩ : Addr).add (sLen * i.size) = ⟨g, off + sLen * i.size, none⟩ := Mem.add_plain _ _ _
  simp only [Nat.add_zero] at hst
  simp [Builtin.append_, run_underlying ht, sizeOf, typeInfo, hi, Builtin.lenOf, hroom, hf, hadd, hst]

/-- Appended to. -/
theorem run_append_mid (w : World) (t ty e : TypeId) (i : TypeInfo) (z : Value) (size bytes : Nat) (ht : P.underlying t = some (.slice e)) (hi : P.info? e = some i) (hz : i.zero = some z)
    (hsize : i.size = size) (hby : i.bytes = bytes) (hzs : z.cells.size = size)
    (L : Nat) (v : Value) (n : Nat) (xs : List Value) (h : Mid w L e size v n xs)
    (a : Addr) (m c : Nat) (news : List Value) (hm : 0 < m) (hl : news.length = m * size) (hnews : ∀ j u, news[j]? = some u → w.cell? (a.add j) = some u) (h1 : ∀ u ∈ news, u.oneCell' = true)
    (h63 : n + m ≤ maxLen) (hbytes : (n + m) * bytes ≤ 140737488355328) (hL : L ≤ w.heap.size) :
    ∃ v' w', (Builtin.append_ #[t, t] ty #[v, .slice (some a) m c]).run P w = .ok v' w' ∧ Mid w' L e size v' (n + m) (xs ++ news) ∧ ∃ row, w.grownBy w' row ∧ ∀ r, row = some r → L ≤ r := by
  subst hsize hby
  have hsmall : n + m ≤ 9223372036854775807 := by simp only [maxLen] at h63; omega
  obtain ⟨hx, b, cap, rfl, hn, hcm, h2⟩ := h
  have hlen : (xs ++ news).length = (n + m) * i.size := by rw [List.length_append, hx, hl, Nat.add_mul]
  have grown : ∀ old, Mid (w.drew.alloc (.cells (xs.toArray ++ news.toArray ++ Builtin.zeroCells z.cells (grownCap w (n + m) old e - (n + m))) e)) L e i.size (.slice (some ⟨w.heap.size, 0, none⟩) (n + m) (grownCap w (n + m) old e)) (n + m) (xs ++ news) ∧
      ∃ row, w.grownBy (w.drew.alloc (.cells (xs.toArray ++ news.toArray ++ Builtin.zeroCells z.cells (grownCap w (n + m) old e - (n + m))) e)) row ∧ ∀ r, row = some r → L ≤ r := by
    intro old
    have hge := grownCap_ge w (n + m) old e
    have hcm := grownCap_le_maxLen w (n + m) old e h63
    refine ⟨⟨hlen, _, _, rfl, hge, hcm, .inr ⟨w.heap.size, 0, _, rfl, hL, heap_alloc_new w.drew _, ?_, fun j u hu => ?_⟩⟩, none, ⟨rfl, rfl, rfl, by simp, fun k hk _ => heap_alloc_old w.drew _ k hk⟩, fun r hr => by cases hr⟩
    · simp only [Array.size_append, List.size_toArray, size_zeroCells, hzs, hx, hl, Nat.zero_add, ← Nat.add_mul]
      rw [show n + m + (grownCap w (n + m) old e - (n + m)) = grownCap w (n + m) old e by omega]
      exact Nat.le_refl _
    · rw [Nat.zero_add, ← Array.getElem?_toList, Array.toList_append, List.getElem?_append_left (by have := (List.getElem?_eq_some_iff.1 hu).1; simpa using this)]
      simpa using hu
  rcases h2 with ⟨hc0, hb⟩ | ⟨g, off, cur, rfl, hLg, hg, hs, hcell⟩
  · subst hc0
    obtain rfl : n = 0 := by omega
    have hx0 : xs = [] := List.eq_nil_of_length_eq_zero (by simpa using hx)
    subst hx0
    have hgr := grown 0
    simp only [Nat.zero_add, List.nil_append] at hgr hbytes h63 ⊢
    rcases hb with rfl | ⟨ad, rfl⟩
    · have hr := run_append_nil (P := P) w t ty e i z ht hi hz a m c news hl hnews hm (by omega) (by omega)
      simp only [Array.empty_append] at hgr
      exact ⟨_, _, hr, hgr.1, hgr.2⟩
    · have hr := run_append_grow (P := P) w t ty e i z ht hi hz ad 0 0 [] (by simp) (by simp) a m c news hl hnews (by omega) (by omega) (growslice_fits (by omega) (by simpa using hbytes))
      simp only [Nat.zero_add] at hr
      exact ⟨_, _, hr, hgr.1, hgr.2⟩
  · by_cases hroom : n + m ≤ cap
    · have hmul : (n + m) * i.size ≤ cap * i.size := Nat.mul_le_mul_right _ hroom
      have hfit : off + n * i.size + news.length ≤ cur.size := by rw [hl]; rw [Nat.add_mul] at hmul; omega
      have hr := run_append_midroom (P := P) w t ty e i ht hi g off n cap cur hg a m c news hl hnews h1 hroom hfit
      refine ⟨_, _, hr, ⟨hlen, _, _, rfl, hroom, hcm, .inr ⟨g, off, _, rfl, hLg, setRow_heap w g cur _ e _ hg, ?_, fun j u hu => ?_⟩⟩, some g, ⟨rfl, rfl, rfl, by simp, fun k _ hk => setRow_other w g k _ (fun e => hk (by rw [e]))⟩, fun r hr => by cases hr; exact hLg⟩
      · simp only [List.size_toArray, List.length_append, List.length_take, List.length_drop, Array.length_toList]
        omega
      · rw [← Array.getElem?_toList]
        simp only [List.append_assoc]
        have hjl := (List.getElem?_eq_some_iff.1 hu).1
        rw [List.length_append] at hjl
        have htl : (cur.toList.take (off + n * i.size)).length = off + n * i.size := by rw [List.length_take, Array.length_toList]; omega
        by_cases hj : j < n * i.size
        · rw [List.getElem?_append_left (by omega), List.getElem?_take_of_lt (by omega), Array.getElem?_toList]
          rw [List.getElem?_append_left (by omega)] at hu
          exact hcell j u hu
        · rw [List.getElem?_append_right (by omega), htl, List.getElem?_append_left (by omega)]
          rw [List.getElem?_append_right (by omega), hx] at hu
          rw [show off + j - (off + n * i.size) = j - n * i.size by omega]
          exact hu
    · have hr := run_append_grow (P := P) w t ty e i z ht hi hz ⟨g, off, none⟩ n cap xs hx (fun j u hu => by rw [Mem.add_plain, cell_of_row w g _ cur e (0, 0) hg]; exact hcell j u hu) a m c news hl hnews (by omega) (by omega) (growslice_fits (by omega) hbytes)
      have hgr := grown cap
      exact ⟨_, _, hr, hgr.1, hgr.2⟩

theorem wpList_append_mid (w : World) {ops : Array Oper} {rest : List Oper} {o : Oper} {a : Act} {Q : Exit → Act → World → Prop} (hgd : o.guard = none) (s x : Operand) (t : TypeId)
    (ho : o.op = .call { callee := .builtin .append, args := #[s, x], argTypes := #[t, t] })
    (e : TypeId) (i : TypeInfo) (z : Value) (size bytes : Nat) (ht : P.underlying t = some (.slice e)) (hi : P.info? e = some i) (hz : i.zero = some z)
    (hsize : i.size = size) (hby : i.bytes = bytes) (hzs : z.cells.size = size)
    (L : Nat) (v : Value) (n : Nat) (xs : List Value) (hs : a.eval s = v) (h : Mid w L e size v n xs)
    (ad : Addr) (m c : Nat) (news : List Value) (hx : a.eval x = .slice (some ad) m c) (hm : 0 < m) (hl : news.length = m * size) (hnews : ∀ j u, news[j]? = some u → w.cell? (ad.add j) = some u) (h1 : ∀ u ∈ news, u.oneCell' = true)
    (h63 : n + m ≤ maxLen) (hbytes : (n + m) * bytes ≤ 140737488355328) (hL : L ≤ w.heap.size)
    (hK : ∀ v' w' row, Mid w' L e size v' (n + m) (xs ++ news) → w.grownBy w' row → (∀ r, row = some r → L ≤ r) → wpList P ops Q rest (a.put o.dst v') w') : wpList P ops Q (o :: rest) a w :=
  wpList_plain hgd fun _ hK2 => by
    obtain ⟨v', w', hr, h2, row, h3, h4⟩ := run_append_mid (P := P) w t o.type e i z size bytes ht hi hz hsize hby hzs L v n xs h ad m c news hm hl hnews h1 h63 hbytes hL
    unfold Oper.wp execOp
    simp only [ho, resolve, invoke, builtin, Sem.run_bind, Sem.run_pure, Result.andThen_ok, List.map_toArray, List.map_cons, List.map_nil, hs, hx, hr]
    exact hK2 _ _ (hK v' w' row h2 h3 h4)
end
end Go.Proofs.Ytfgnlemoodfgoaa.Rf
