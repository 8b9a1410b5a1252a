/-
  A REGION THAT DRAWS ITS ORDER IN A ROUND of a range over a function, of no program: what is shown of it elsewhere holds there. And a slice in the midst of a block of the call's own, appended to. GRAPHS OF THE CALL's OWN: rows of its own, each in a block of its own; a row that is put anew.
-/
import Derived.Test.YtbknmapkdjmcjaaGreatDoorZd
import Derived.Test.YtbknmapkdjmcjaaGreatDoorZe
import Derived.Deep.RegionHeld3
import Derived.OrdersIn
import Derived.TacticsIn
import Derived.Test.YtbknmapkdjmcjaaGreatDoorGb
import Derived.Laws.MakeOwn
namespace Go.Proofs.YtbknmapkdjmcjaaGreatDoor.Rf
open Go.RowKit

/-- It goes on, and in no other way. -/
def Only (Q : Exit → Act → World → Prop) : Exit → Act → World → Prop
  | .normal, a, w => Q .normal a w
  | _, _, _ => False

theorem Only.imp {Q : Exit → Act → World → Prop} : ∀ e a w, Only Q e a w → Q e a w
  | .normal, _, _, h => h
  | .exit _, _, _, h => h.elim
  | .goto _, _, _, h => h.elim
  | .ret, _, _, h => h.elim
  | .panic _, _, _, h => h.elim
  | .outgrown, _, _, h => h.elim

def noDefer (ops : Array Oper) : Bool := ops.all fun o => match o.op with | .defer _ => false | _ => true

theorem uponIn_of {P : Program} {l n : Nat} {o : Oper} {a : Act} {K : Act → World → Prop} {Q : Exit → Act → World → Prop} (r : Result Next) (h : o.upon P a K Q r) : o.uponIn (Fence.wide.inRound l) n P a K Q r := by
  match r, h with
  | .ok (.value _) _, h => exact h
  | .ok .skip _, h => exact h
  | .ok (.defer _) _, h => exact h
  | .ok (.enter f args) w', h =>
    refine ⟨fun e => (by cases e), CallsIn.inRound l (callsIn_wide.2 ?_)⟩
    exact h.mono fun e w'' he => by cases e <;> exact he
  | .ok (.row row args) w', h =>
    exact ⟨fun e => (by cases e), fun c cs _ => let ⟨v, w2, r, s⟩ := h c cs; ⟨v, w2, r, stepsIn_wide.2 s⟩⟩
  | .halt (.panic _) _, h => exact h

theorem opIn_of {P : Program} {l n i : Nat} {ops : Array Oper} (hd : noDefer ops = true) {a : Act} {w : World} {K : Act → World → Prop} {Q : Exit → Act → World → Prop} (h : wpOp P ops (Only Q) i K a w) : wpOpIn (Fence.wide.inRound l) n P ops (Only Q) i K a w := by
  unfold wpOp at h
  unfold wpOpIn
  split at h
  · rename_i e; rw [e]; exact h
  · rename_i o e
    rw [e]
    have hnd : ∀ c, o.op ≠ .defer c := fun c ec => by
      have := Array.all_eq_true_iff_forall_mem.1 hd o (Array.mem_of_getElem? e)
      rw [ec] at this; cases this
    simp only
    by_cases hw : Region.wanted o (yielded ops a.tmps) = true
    · rw [if_pos hw] at h ⊢
      rcases h with h | ⟨_, a', w', h⟩
      · refine ⟨fun _ _ => trivial, ?_⟩
        have : o.semAt (Fence.wide.inRound l).round a.eval = execOp a.eval o := Oper.semAt_some l _ _ hnd
        rw [this]
        exact uponIn_of _ h
      · exact h.elim
    · rw [if_neg hw] at h ⊢
      exact ⟨fun _ _ => trivial, h⟩

theorem anyIn_of {P : Program} {l n : Nat} {ops : Array Oper} (hd : noDefer ops = true) {Q : Exit → Act → World → Prop} : ∀ (f : Nat) (listed : Array Bool) (a : Act) (w : World), wpAny P .any ops (Only Q) f listed a w → wpAnyIn (Fence.wide.inRound l) n P .any ops (Only Q) f listed a w
  | 0, _, _, _, h => h
  | f + 1, _, _, _, h => ⟨h.1, fun i hi => opIn_of hd (wpOp_mono (fun a' w' h' => anyIn_of hd f _ a' w' h') (h.2 i hi))⟩

theorem wpIn_region_round {P : Program} {id l n : Nat} {ops : Array Oper} {S : World → Prop} {Q : Exit → Act → World → Prop} {a : Act} {w : World} (hm : P.follows .mixedOrders = true) (hd : noDefer ops = true)
    (h : wpAnyH P .any ops (Only Q) S ops.size (Array.replicate ops.size false) a w.drew) : (Code.region id ops true).wpIn (Fence.wide.inRound l) n P Q a w :=
  wpIn_mono (wpIn_region_any hm (anyIn_of hd _ _ _ _ (wpAny_of_held _ _ _ _ h))) Only.imp

/-- A slice value of n elements of size cells each, which lie somewhere in a block from L on that holds nothing else that counts; or one with no room at all. -/
def Mid (w : World) (L : Nat) (e : TypeId) (size : Nat) (v : Value) (n : Nat) (xs : List Value) : Prop :=
  xs.length = n * size ∧ ∃ a cap, v = .slice a n cap ∧ n ≤ cap ∧ cap ≤ maxLen ∧
    ((cap = 0 ∧ (a = none ∨ ∃ ad, a = some ad)) ∨ ∃ g off cur, a = some ⟨g, off, none⟩ ∧ L ≤ g ∧ w.heap[g]? = some (.cells cur e (0, 0)) ∧ off + cap * size ≤ cur.size ∧ ∀ j u, xs[j]? = some u → cur[off + j]? = some u)

section
variable {P : Program} {w w' : World} {L e size n : Nat} {v : Value} {xs : List Value}

theorem Mid.nil (w : World) (L : Nat) (e : TypeId) (size : Nat) : Mid w L e size (.slice none 0 0) 0 [] := ⟨by simp, none, 0, rfl, Nat.le_refl _, Nat.zero_le _, .inl ⟨rfl, .inl rfl⟩⟩

theorem Mid.keep (h : Mid w L e size v n xs) (hk : ∀ g, L ≤ g → g < w.heap.size → w'.heap[g]? = w.heap[g]?) : Mid w' L e size v n xs := by
  obtain ⟨h1, a, cap, hv, hn, hm, h2⟩ := h
  refine ⟨h1, a, cap, hv, hn, hm, ?_⟩
  rcases h2 with h2 | ⟨g, off, cur, ha, hL, hg, hs, hx⟩
  · exact .inl h2
  · exact .inr ⟨g, off, cur, ha, hL, (hk g hL (Array.getElem?_eq_some_iff.1 hg).1).trans hg, hs, hx⟩

/-- Its first element's cells. -/
theorem Mid.front (h : Mid w L e size v n xs) (hn : 0 < n) : ∃ g off cap, v = .slice (some ⟨g, off, none⟩) n cap ∧ n ≤ cap ∧ cap ≤ maxLen ∧ L ≤ g ∧ g < w.heap.size ∧ ∀ j u, xs[j]? = some u → w.cell? ⟨g, off + j, none⟩ = some u := by
  obtain ⟨_, a, cap, rfl, hc, hm, h2⟩ := h
  rcases h2 with ⟨h2, _⟩ | ⟨g, off, cur, rfl, hL, hg, hs, hx⟩
  · omega
  · exact ⟨g, off, cap, rfl, hc, hm, hL, (Array.getElem?_eq_some_iff.1 hg).1, fun j u hu => by rw [cell_of_row w g _ cur e (0, 0) hg]; exact hx j u hu⟩

/-- Without its first element. -/
theorem Mid.tail {g off cap : Nat} (h : Mid w L e size (.slice (some ⟨g, off, none⟩) (n + 1) cap) (n + 1) xs) :
    Mid w L e size (.slice (if cap = 1 then some ⟨g, off, none⟩ else some ⟨g, off + size, none⟩) n (cap - 1)) n (xs.drop size) := by
  obtain ⟨h1, a, cap', hv, hc, hm, h2⟩ := h
  injection hv with e1 e2 e3
  subst e1 e3
  refine ⟨by rw [List.length_drop, h1, Nat.add_mul]; omega, _, _, rfl, by omega, by omega, ?_⟩
  rcases h2 with ⟨h2, _⟩ | ⟨g', off', cur, ha, hL, hg, hs, hx⟩
  · omega
  · injection ha with ha
    injection ha with ha1 ha2
    subst ha1 ha2
    by_cases hc1 : cap = 1
    · rw [if_pos hc1]; exact .inl ⟨by omega, .inr ⟨_, rfl⟩⟩
    · rw [if_neg hc1]
      refine .inr ⟨g, off + size, cur, rfl, hL, hg, ?_, fun j u hu => ?_⟩
      · have : cap * size = (cap - 1) * size + size := by
          rw [show cap = (cap - 1) + 1 by omega, Nat.add_mul, Nat.one_mul, Nat.add_sub_cancel]
        omega
      · rw [List.getElem?_drop] at hu
        rw [Nat.add_assoc]; exact hx _ u hu

theorem run_append_midroom (w : World) (t ty e : TypeId) (i : TypeInfo) (ht : P.underlying t = some (.slice e)) (hi : P.info? e = some i)
    (g off sLen sCap : Nat) (cur : Array Value) (hg : w.heap[g]? = some (.cells cur e (0, 0)))
    (a : Addr) (m c : Nat) (news : List Value) (hl : news.length = m * i.size) (hnews : ∀ j u, news[j]? = some u → w.cell? (a.add j) = some u) (h1 : ∀ u ∈ news, u.oneCell' = true)
    (hroom : sLen + m ≤ sCap) (hfit : off + sLen * i.size + news.length ≤ cur.size) :
    (Builtin.append_ #[t, t] ty #[.slice (some ⟨g, off, none⟩) sLen sCap, .slice (some a) m c]).run P w =
      .ok (.slice (some ⟨g, off, none⟩) (sLen + m) sCap) (w.setRow g (cur.toList.take (off + sLen * i.size) ++ news ++ cur.toList.drop (off + sLen * i.size + news.length)).toArray) := by
  have hf := run_firstCells_some (P := P) w i.size m a m c news hl hnews
  have hst := run_storeCells_at P g (off + sLen * i.size) e news 0 cur w hg (by simpa using hfit) h1
  have hadd : (⟨g, off, none⟩ : Addr).add (sLen * i.size) = ⟨g, off + sLen * i.size, none⟩ := Mem.add_plain _ _ _
  simp only [Nat.add_zero] at hst
  simp [Builtin.append_, run_underlying ht, sizeOf, typeInfo, hi, Builtin.lenOf, hroom, hf, hadd, hst]

/-- Appended to. -/
theorem run_append_mid (w : World) (t ty e : TypeId) (i : TypeInfo) (z : Value) (size bytes : Nat) (ht : P.underlying t = some (.slice e)) (hi : P.info? e = some i) (hz : i.zero = some z)
    (hsize : i.size = size) (hby : i.bytes = bytes) (hzs : z.cells.size = size)
    (L : Nat) (v : Value) (n : Nat) (xs : List Value) (h : Mid w L e size v n xs)
    (a : Addr) (m c : Nat) (news : List Value) (hm : 0 < m) (hl : news.length = m * size) (hnews : ∀ j u, news[j]? = some u → w.cell? (a.add j) = some u) (h1 : ∀ u ∈ news, u.oneCell' = true)
    (h63 : n + m ≤ maxLen) (hbytes : (n + m) * bytes ≤ 140737488355328) (hL : L ≤ w.heap.size) :
    ∃ v' w', (Builtin.append_ #[t, t] ty #[v, .slice (some a) m c]).run P w = .ok v' w' ∧ Mid w' L e size v' (n + m) (xs ++ news) ∧ ∃ row, w.grownBy w' row ∧ ∀ r, row = some r → L ≤ r := by
  subst hsize hby
  have hsmall : n + m ≤ 9223372036854775807 := by simp only [maxLen] at h63; omega
  obtain ⟨hx, b, cap, rfl, hn, hcm, h2⟩ := h
  have hlen : (xs ++ news).length = (n + m) * i.size := by rw [List.length_append, hx, hl, Nat.add_mul]
  have grown : ∀ old, Mid (w.drew.alloc (.cells (xs.toArray ++ news.toArray ++ Builtin.zeroCells z.cells (grownCap w (n + m) old e - (n + m))) e)) L e i.size (.slice (some ⟨w.heap.size, 0, none⟩) (n + m) (grownCap w (n + m) old e)) (n + m) (xs ++ news) ∧
      ∃ row, w.grownBy (w.drew.alloc (.cells (xs.toArray ++ news.toArray ++ Builtin.zeroCells z.cells (grownCap w (n + m) old e - (n + m))) e)) row ∧ ∀ r, row = some r → L ≤ r := by
    intro old
    have hge := grownCap_ge w (n + m) old e
    have hcm := grownCap_le_maxLen w (n + m) old e h63
    refine ⟨⟨hlen, _, _, rfl, hge, hcm, .inr ⟨w.heap.size, 0, _, rfl, hL, heap_alloc_new w.drew _, ?_, fun j u hu => ?_⟩⟩, none, ⟨rfl, rfl, rfl, by simp, fun k hk _ => heap_alloc_old w.drew _ k hk⟩, fun r hr => by cases hr⟩
    · simp only [Array.size_append, List.size_toArray, size_zeroCells, hzs, hx, hl, Nat.zero_add, ← Nat.add_mul]
      rw [show n + m + (grownCap w (n + m) old e - (n + m)) = grownCap w (n + m) old e by omega]
      exact Nat.le_refl _
    · rw [Nat.zero_add, ← Array.getElem?_toList, Array.toList_append, List.getElem?_append_left (by have := (List.getElem?_eq_some_iff.1 hu).1; simpa using this)]
      simpa using hu
  rcases h2 with ⟨hc0, hb⟩ | ⟨g, off, cur, rfl, hLg, hg, hs, hcell⟩
  · subst hc0
    obtain rfl : n = 0 := by omega
    have hx0 : xs = [] := List.eq_nil_of_length_eq_zero (by simpa using hx)
    subst hx0
    have hgr := grown 0
    simp only [Nat.zero_add, List.nil_append] at hgr hbytes h63 ⊢
    rcases hb with rfl | ⟨ad, rfl⟩
    · have hr := run_append_nil (P := P) w t ty e i z ht hi hz a m c news hl hnews hm (by omega) (by omega)
      simp only [Array.empty_append] at hgr
      exact ⟨_, _, hr, hgr.1, hgr.2⟩
    · have hr := run_append_grow (P := P) w t ty e i z ht hi hz ad 0 0 [] (by simp) (by simp) a m c news hl hnews (by omega) (by omega) (growslice_fits (by omega) (by simpa using hbytes))
      simp only [Nat.zero_add] at hr
      exact ⟨_, _, hr, hgr.1, hgr.2⟩
  · by_cases hroom : n + m ≤ cap
    · have hmul : (n + m) * i.size ≤ cap * i.size := Nat.mul_le_mul_right _ hroom
      have hfit : off + n * i.size + news.length ≤ cur.size := by rw [hl]; rw [Nat.add_mul] at hmul; omega
      have hr := run_append_midroom (P := P) w t ty e i ht hi g off n cap cur hg a m c news hl hnews h1 hroom hfit
      refine ⟨_, _, hr, ⟨hlen, _, _, rfl, hroom, hcm, .inr ⟨g, off, _, rfl, hLg, setRow_heap w g cur _ e _ hg, ?_, fun j u hu => ?_⟩⟩, some g, ⟨rfl, rfl, rfl, by simp, fun k _ hk => setRow_other w g k _ (fun e => hk (by rw [e]))⟩, fun r hr => by cases hr; exact hLg⟩
      · simp only [List.size_toArray, List.length_append, List.length_take, List.length_drop, Array.length_toList]
        omega
      · rw [← Array.getElem?_toList]
        simp only [List.append_assoc]
        have hjl := (List.getElem?_eq_some_iff.1 hu).1
        rw [List.length_append] at hjl
        have htl : (cur.toList.take (off + n * i.size)).length = off + n * i.size := by rw [List.length_take, Array.length_toList]; omega
        by_cases hj : j < n * i.size
        · rw [List.getElem?_append_left (by omega), List.getElem?_take_of_lt (by omega), Array.getElem?_toList]
          rw [List.getElem?_append_left (by omega)] at hu
          exact hcell j u hu
        · rw [List.getElem?_append_right (by omega), htl, List.getElem?_append_left (by omega)]
          rw [List.getElem?_append_right (by omega), hx] at hu
          rw [show off + j - (off + n * i.size) = j - n * i.size by omega]
          exact hu
    · have hr := run_append_grow (P := P) w t ty e i z ht hi hz ⟨g, off, none⟩ n cap xs hx (fun j u hu => by rw [Mem.add_plain, cell_of_row w g _ cur e (0, 0) hg]; exact hcell j u hu) a m c news hl hnews (by omega) (by omega) (growslice_fits (by omega) hbytes)
      have hgr := grown cap
      exact ⟨_, _, hr, hgr.1, hgr.2⟩

theorem wpList_append_mid (w : World) {ops : Array Oper} {rest : List Oper} {o : Oper} {a : Act} {Q : Exit → Act → World → Prop} (hgd : o.guard = none) (s x : Operand) (t : TypeId)
    (ho : o.op = .call { callee := .builtin .append, args := #[s, x], argTypes := #[t, t] })
    (e : TypeId) (i : TypeInfo) (z : Value) (size bytes : Nat) (ht : P.underlying t = some (.slice e)) (hi : P.info? e = some i) (hz : i.zero = some z)
    (hsize : i.size = size) (hby : i.bytes = bytes) (hzs : z.cells.size = size)
    (L : Nat) (v : Value) (n : Nat) (xs : List Value) (hs : a.eval s = v) (h : Mid w L e size v n xs)
    (ad : Addr) (m c : Nat) (news : List Value) (hx : a.eval x = .slice (some ad) m c) (hm : 0 < m) (hl : news.length = m * size) (hnews : ∀ j u, news[j]? = some u → w.cell? (ad.add j) = some u) (h1 : ∀ u ∈ news, u.oneCell' = true)
    (h63 : n + m ≤ maxLen) (hbytes : (n + m) * bytes ≤ 140737488355328) (hL : L ≤ w.heap.size)
    (hK : ∀ v' w' row, Mid w' L e size v' (n + m) (xs ++ news) → w.grownBy w' row → (∀ r, row = some r → L ≤ r) → wpList P ops Q rest (a.put o.dst v') w') : wpList P ops Q (o :: rest) a w :=
  wpList_plain hgd fun _ hK2 => by
    obtain ⟨v', w', hr, h2, row, h3, h4⟩ := run_append_mid (P := P) w t o.type e i z size bytes ht hi hz hsize hby hzs L v n xs h ad m c news hm hl hnews h1 h63 hbytes hL
    unfold Oper.wp execOp
    simp only [ho, resolve, invoke, builtin, Sem.run_bind, Sem.run_pure, Result.andThen_ok, List.map_toArray, List.map_cons, List.map_nil, hs, hx, hr]
    exact hK2 _ _ (hK v' w' row h2 h3 h4)
end
end Go.Proofs.YtbknmapkdjmcjaaGreatDoor.Rf

namespace Go.Proofs.YtbknmapkdjmcjaaGreatDoor.By
open Go.RowKit
open Mem Gm Rf

/-- Rows of the call's own, whose values lie in block rb. -/
def OwnG (w : World) (rb base : Nat) (T E : TypeId) (L : List (List Int)) : Prop :=
  ∃ rs : List Value, rs.length = L.length ∧ Blk w rb T rs.toArray ∧ (∀ (i : Nat) rv, rs[i]? = some rv → w.ownsRow base E 1 rv (rowOf L i).length (ints (rowOf L i))) ∧
    ∀ (i j : Nat) rv rv', i ≠ j → rs[i]? = some rv → rs[j]? = some rv' → rv.ownBlock = none ∨ rv.ownBlock ≠ rv'.ownBlock

section
variable {w w' : World} {rb base : Nat} {T E : TypeId} {L : List (List Int)}

theorem own_keep {v : Value} {n : Nat} {xs : List Value} (h : w.ownsRow base E 1 v n xs) (hk : ∀ g, base ≤ g → g < w.heap.size → v.ownBlock = some g → w'.heap[g]? = w.heap[g]?) : w'.ownsRow base E 1 v n xs := by
  obtain ⟨h1, h2⟩ := h
  refine ⟨h1, ?_⟩
  rcases h2 with h2 | ⟨g, cap, cur, hv, hb, hg, r⟩
  · exact .inl h2
  · exact .inr ⟨g, cap, cur, hv, hb, (hk g hb (Array.getElem?_eq_some_iff.1 hg).1 (by rw [hv]; rfl)).trans hg, r⟩

theorem OwnG.keep (h : OwnG w rb base T E L) (hk : ∀ g, (g = rb ∨ base ≤ g) → g < w.heap.size → w'.heap[g]? = w.heap[g]?) : OwnG w' rb base T E L := by
  obtain ⟨rs, h1, h2, h3, h4⟩ := h
  exact ⟨rs, h1, (hk rb (.inl rfl) h2.lt).trans h2, fun i rv hi => own_keep (h3 i rv hi) fun g hg hl _ => hk g (.inr hg) hl, h4⟩

theorem OwnG.lt (h : OwnG w rb base T E L) : rb < w.heap.size := by obtain ⟨rs, _, h2, _⟩ := h; exact h2.lt

theorem rowOf_set {l : List Int} {a i : Nat} (ha : a < L.length) : rowOf (L.set a l) i = if i = a then l else rowOf L i := by
  unfold rowOf
  rw [List.getD_eq_getElem?_getD, List.getElem?_set]
  by_cases h : a = i
  · subst h; simp [ha]
  · rw [if_neg h, if_neg (fun e => h e.symm), List.getD_eq_getElem?_getD]

/-- What there is to take of a place's row, and how it is put anew. -/
theorem OwnG.at_ (h : OwnG w rb base T E L) (hrb : rb < base) {a : Nat} (ha : a < L.length) : ∃ rv, w.cell? ⟨rb, a, none⟩ = some rv ∧ w.frozen? ⟨rb, a, none⟩ = false ∧ rv.oneCell' = true ∧
    w.ownsRow base E 1 rv (rowOf L a).length (ints (rowOf L a)) ∧ (∃ A c, rv = .slice A (rowOf L a).length c) ∧
    ∀ (rv' : Value) (l : List Int) (w1 : World) , rv'.oneCell' = true → w1.ownsRow base E 1 rv' l.length (ints l) → (rv'.ownBlock = none ∨ rv'.ownBlock = rv.ownBlock ∨ ∃ k, rv'.ownBlock = some k ∧ w.heap.size ≤ k) →
      (∀ g, (g = rb ∨ base ≤ g) → g < w.heap.size → rv.ownBlock ≠ some g → w1.heap[g]? = w.heap[g]?) → OwnG (w1.setCell ⟨rb, a, none⟩ rv') rb base T E (L.set a l) := by
  obtain ⟨rs, h1, h2, h3, h4⟩ := h
  have har : a < rs.length := by omega
  have hget : rs[a]? = some rs[a] := List.getElem?_eq_getElem har
  have hown := h3 a _ hget
  refine ⟨rs[a], by rw [h2.cell, List.getElem?_toArray, hget], h2.frozen a, ?_, hown, ?_, ?_⟩
  · rcases hown.2 with ⟨e, _⟩ | ⟨g, cap, cur, e, _⟩ <;> rw [e] <;> rfl
  · rcases hown.2 with ⟨e, e2⟩ | ⟨g, cap, cur, e, _⟩
    · exact ⟨none, 0, by rw [e, e2]⟩
    · exact ⟨_, _, e⟩
  intro rv' l w1 hone hown' hplace hk
  have hne : rs[a].ownBlock ≠ some rb := fun e => by
    have := (hown.lt rb e).1; omega
  have hblk : Blk w1 rb T rs.toArray := (hk rb (.inl rfl) h2.lt hne).trans h2
  have hb' : Blk (w1.setCell ⟨rb, a, none⟩ rv') rb T (rs.set a rv').toArray := by
    have := hblk.stored a rv'
    rwa [List.setIfInBounds_toArray] at this
  have hset : ∀ (i : Nat) x, (rs.set a rv')[i]? = some x → (i = a ∧ x = rv') ∨ (i ≠ a ∧ rs[i]? = some x) := fun i x hx => by
    rw [List.getElem?_set] at hx
    by_cases e : a = i
    · subst e; rw [if_pos rfl, if_pos har] at hx; left; exact ⟨rfl, (Option.some.inj hx).symm⟩
    · rw [if_neg e] at hx; exact .inr ⟨fun e' => e e'.symm, hx⟩
  refine ⟨rs.set a rv', by simp [h1], hb', fun i x hx => ?_, fun i j x y hij hx hy => ?_⟩
  · rw [rowOf_set ha]
    rcases hset i x hx with ⟨rfl, rfl⟩ | ⟨hi, hx⟩
    · rw [if_pos rfl]
      refine own_keep hown' fun g hg _ _ => Below.heap_setCell _ _ _ _ ?_
      show g ≠ rb; omega
    · rw [if_neg hi]
      have hx' := h3 i x hx
      refine own_keep hx' fun g hg hl he => ?_
      rw [Below.heap_setCell _ _ _ _ (show g ≠ rb by omega)]
      refine hk g (.inr hg) hl fun e => ?_
      rcases h4 a i _ _ (fun e => hi e.symm) hget hx with h5 | h5
      · rw [h5] at e; cases e
      · exact h5 (e.trans he.symm)
  · have key : ∀ (k : Nat) z, k ≠ a → rs[k]? = some z → rv'.ownBlock = none ∨ rv'.ownBlock ≠ z.ownBlock := fun k z hk hz => by
      rcases hplace with h5 | h5 | ⟨q, h5, h6⟩
      · exact .inl h5
      · rw [h5]; exact h4 a k _ _ (fun e => hk e.symm) hget hz
      · right
        rw [h5]
        intro e
        have := ((h3 k z hz).lt q e.symm).2
        omega
    have hi0 := hset i x hx
    have hj0 := hset j y hy
    clear hx hy
    rcases hi0 with ⟨ei, ex⟩ | ⟨hi, hx⟩
    · rcases hj0 with ⟨ej, _⟩ | ⟨hj, hy⟩
      · exact absurd (ei.trans ej.symm) hij
      · rw [ex]; exact key j y hj hy
    · rcases hj0 with ⟨_, ey⟩ | ⟨hj, hy⟩
      · rw [ey]
        rcases key i x hi hx with h5 | h5
        · rw [h5]
          cases e : x.ownBlock with
          | none => exact .inl rfl
          | some q => right; simp
        · exact .inr fun e => h5 e.symm
      · exact h4 i j x y hij hx hy

/-- Of the call's own, it is one that can be read. -/
theorem OwnG.gr (h : OwnG w rb base T E L) (cap : Nat) (hc : L.length ≤ cap) (hm : cap ≤ maxLen) : Gr w w.heap.size (.slice (some ⟨rb, 0, none⟩) L.length cap) L := by
  obtain ⟨rs, h1, h2, h3, h4⟩ := h
  refine ⟨rs, ?_, h1, fun i rv hi => ?_⟩
  · rw [← h1]
    refine .at_ _ _ rs (by omega) hm fun j u hu => ⟨h2.lt, ?_⟩
    rw [add_plain, Nat.zero_add, h2.cell, List.getElem?_toArray, hu]
  · have hs := SlV.of_own (h3 i rv hi)
    rcases (h3 i rv hi).2 with ⟨e, e2⟩ | ⟨g, c, cur, e, _⟩
    · exact ⟨none, 0, by rw [e, e2], hs⟩
    · exact ⟨_, _, e, hs⟩

theorem slv_kept {v : Value} {n : Nat} {vs : List Value} (h : w.ownsRow base E 1 v n vs) (hk : ∀ g, base ≤ g → g < w.heap.size → v.ownBlock = some g → w'.heap[g]? = w.heap[g]?) : SlV w' w.heap.size v vs := by
  have h2 := SlV.of_own h
  rcases h.2 with ⟨rfl, _⟩ | ⟨g, cap, cur, rfl, hb, hg, _⟩
  · have := h2.inv
    rcases this with ⟨_, _, _, e⟩ | ⟨ad, e, _⟩
    · rw [e]; exact .nil
    · cases e
  · rcases h2.inv with ⟨e, _⟩ | ⟨ad, e, h3, h4, h5, hr⟩
    · cases e
    · injection e with e
      subst e
      rw [h3]
      exact .at_ _ _ _ (by omega) h5 fun j u hu => ⟨(hr j u hu).1, (World.cell?_of_block (w := w) (by rw [add_block]; exact hk g hb (Array.getElem?_eq_some_iff.1 hg).1 rfl)).trans (hr j u hu).2⟩

/-- .. and so it is where its rows are as they were. -/
theorem OwnG.gr_kept (h : OwnG w rb base T E L) (cap : Nat) (hc : L.length ≤ cap) (hm : cap ≤ maxLen) (hk : ∀ g, (g = rb ∨ base ≤ g) → g < w.heap.size → w'.heap[g]? = w.heap[g]?) : Gr w' w.heap.size (.slice (some ⟨rb, 0, none⟩) L.length cap) L := by
  obtain ⟨rs, h1, h2, h3, h4⟩ := h
  refine ⟨rs, ?_, h1, fun i rv hi => ?_⟩
  · rw [← h1]
    refine .at_ _ _ rs (by omega) hm fun j u hu => ⟨h2.lt, ?_⟩
    have h2' : Blk w' rb T rs.toArray := (hk rb (.inl rfl) h2.lt).trans h2
    rw [add_plain, Nat.zero_add, h2'.cell, List.getElem?_toArray, hu]
  · have hs := slv_kept (w' := w') (h3 i rv hi) fun g hg hl _ => hk g (.inr hg) hl
    rcases (h3 i rv hi).2 with ⟨e, e2⟩ | ⟨g, c, cur, e, _⟩
    · exact ⟨none, 0, by rw [e, e2], hs⟩
    · exact ⟨_, _, e, hs⟩

theorem OwnG.start (w : World) (n : Nat) (base : Nat) (h : Blk w rb T (Array.replicate n (.slice none 0 0))) : OwnG w rb base T E (List.replicate n []) := by
  refine ⟨List.replicate n (.slice none 0 0), by simp, by simpa using h, fun i rv hi => ?_, fun i j rv rv' _ hi _ => .inl ?_⟩
  · have := List.mem_of_getElem? hi
    rw [List.mem_replicate] at this
    rw [this.2]
    have h0 : rowOf (List.replicate n []) i = [] := by
      unfold rowOf; rw [List.getD_eq_getElem?_getD, List.getElem?_replicate]; split <;> rfl
    rw [h0]
    exact World.ownsRow_nil _ _ _ _
  · have := List.mem_of_getElem? hi
    rw [List.mem_replicate] at this
    rw [this.2]; rfl
end

/-- Where a row lies that was appended to: where it lay, or in a new block. -/
theorem append_where {P : Program} (w : World) (base : Nat) (t ty e : TypeId) (i : TypeInfo) (z : Value) (size bytes : Nat) (ht : P.underlying t = some (.slice e)) (hi : P.info? e = some i) (hz : i.zero = some z)
    (hsize : i.size = size) (hby : i.bytes = bytes)
    (v : Value) (n : Nat) (xs : List Value) (hown : w.ownsRow base e size v n xs)
    (a : Addr) (m c : Nat) (news : List Value) (hm : 0 < m) (hl : news.length = m * size) (hnews : ∀ j u, news[j]? = some u → w.cell? (a.add j) = some u) (h1 : ∀ u ∈ news, u.oneCell' = true)
    (h63 : n + m ≤ maxLen) (hbytes : (n + m) * bytes ≤ 140737488355328) {v' : Value} {w' : World} (hr : (Builtin.append_ #[t, t] ty #[v, .slice (some a) m c]).run P w = .ok v' w') :
    v'.ownBlock = v.ownBlock ∨ v'.ownBlock = some w.heap.size := by
  subst hsize hby
  have hsmall : n + m ≤ 9223372036854775807 := by simp only [maxLen] at h63; omega
  rcases hown.2 with ⟨rfl, rfl⟩ | ⟨g, cap, cur, rfl, hbg, hg, hnc, hcm, hcs, htake⟩
  · have h2 := run_append_nil (P := P) w t ty e i z ht hi hz a m c news hl hnews hm (by omega) (by have hb := hbytes; simp only [Nat.zero_add] at hb; omega)
    rw [hr] at h2
    injection h2 with h2
    right; rw [h2]; rfl
  · by_cases hroom : n + m ≤ cap
    · have hfit : n * i.size + news.length ≤ cur.size := by rw [hl, hcs, ← Nat.add_mul]; exact Nat.mul_le_mul_right _ hroom
      have h2 := run_append_room (P := P) w t ty e i ht hi g n cap cur hg a m c news hl hnews h1 hroom hfit
      rw [hr] at h2
      injection h2 with h2
      left; rw [h2]; rfl
    · have holds : ∀ j u, xs[j]? = some u → w.cell? ((⟨g, 0, none⟩ : Addr).add j) = some u := hown.cells (g := g) rfl
      have h2 := run_append_grow (P := P) w t ty e i z ht hi hz ⟨g, 0, none⟩ n cap xs hown.1 holds a m c news hl hnews (by omega) (by omega) (growslice_fits (by omega) hbytes)
      rw [hr] at h2
      injection h2 with h2
      right; rw [h2]; rfl

/-- append as one step of a region, with where it lies. -/
theorem step_append_where {P : Program} {ops : Array Oper} {o : Oper} {a : Act} {w : World} {K : Act → World → Prop} {Q : Exit → Act → World → Prop} {Z : Prop}
    (hgd : o.guard = none) (s x : Operand) (t : TypeId) (ho : o.op = .call { callee := .builtin .append, args := #[s, x], argTypes := #[t, t] })
    (base : Nat) (e : TypeId) (i : TypeInfo) (z : Value) (bytes : Nat) (ht : P.underlying t = some (.slice e)) (hi : P.info? e = some i) (hz : i.zero = some z)
    (hsize : i.size = 1) (hby : i.bytes = bytes) (hzs : z.cells.size = 1)
    (v : Value) (n : Nat) (xs : List Value) (hs : a.eval s = v) (hown : w.ownsRow base e 1 v n xs)
    (ad : Addr) (c : Nat) (u : Value) (hx : a.eval x = .slice (some ad) 1 c) (hu : w.cell? ad = some u) (h1 : u.oneCell' = true)
    (h63 : n + 1 ≤ maxLen) (hbytes : (n + 1) * bytes ≤ 140737488355328) (hbase : base ≤ w.heap.size)
    (hK : ∀ v' w', w'.ownsRow base e 1 v' (n + 1) (xs ++ [u]) → w.grownBy w' v.ownBlock → (v'.ownBlock = v.ownBlock ∨ v'.ownBlock = some w.heap.size) → K (a.put o.dst v') w') :
    if Region.wanted o (yielded ops a.tmps) = true then Oper.wp P o a w K Q else Z := by
  have hw : Region.wanted o (yielded ops a.tmps) = true := by simp [Region.wanted, hgd]
  rw [if_pos hw]
  have hnews : ∀ j y, [u][j]? = some y → w.cell? (ad.add j) = some y := fun j y hy => by
    cases j with
    | zero => simp at hy; subst hy; simpa [Addr.add] using hu
    | succ j => simp at hy
  have h1' : ∀ y ∈ [u], y.oneCell' = true := fun y hy => by rw [List.mem_singleton] at hy; subst hy; exact h1
  obtain ⟨v', w', hr, h2, h3, h4⟩ := run_append_own (P := P) w base t o.type e i z 1 bytes ht hi hz hsize hby hzs (by decide) v n xs hown ad 1 c [u] rfl hnews h1' h63 hbytes hbase
  have h5 := append_where (P := P) w base t o.type e i z 1 bytes ht hi hz hsize hby v n xs hown ad 1 c [u] (by decide) rfl hnews h1' h63 hbytes hr
  unfold Oper.wp execOp
  simp only [ho, resolve, invoke, builtin, Sem.run_bind, Sem.run_pure, Result.andThen_ok, List.map_toArray, List.map_cons, List.map_nil, hs, hx, hr]
  exact hK v' w' h2 h3 h5
end Go.Proofs.YtbknmapkdjmcjaaGreatDoor.By
