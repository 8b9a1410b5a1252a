/-
  WALK of layer 11: knots hands back what tells them. WALK of layer 11: what knots tells: places that lead to one another, together; the trails.
-/
import Derived.Test.YtlfgnoicjogfpaaCx
import Derived.Test.YtlfgnoicjogfpaaCo
import Derived.Test.YtlfgnoicjogfpaaZd
import Derived.Test.YtlfgnoicjogfpaaZe
import Derived.Shelf.Abstract
import Derived.OwnWalkIn
import Derived.TacticsInMore
import Derived.LoopNIn
import Derived.LoopIn
import Derived.StillTailTactics
namespace Go.Proofs.Ytlfgnoicjogfpaa.By
open Go.RowKit
open Mem Gm Rf

theorem knots_any (A : Option Addr) (n c : Nat) (w : World) : Calls Try.prog 63 #[.slice A n c] w fun e w' =>
    e = .returned (.func (.func 112) #[] #[.pointer (some ⟨w.heap.size, 0, none⟩)]) ∧ w' = w.alloc (.cells #[.slice A n c] 22) := by
  go_enter Try.func63, Try.ntmps63
  go_wp2
  go_ret
  exact ⟨rfl, rfl⟩
end Go.Proofs.Ytlfgnoicjogfpaa.By

namespace Go.Proofs.Ytlfgnoicjogfpaa.By
open Go.RowKit
open Mem Gm Rf Cy
attribute [local go_sem] Oper.semAt_some

theorem reverse_own (w : World) (base : Nat) (v : Value) (l : List Nat) (h : w.ownsRow base 3 1 v l.length (nats l)) (hm : l.length ≤ 1000000) :
    Calls Try.prog 115 #[v] w fun e w' => e = .returned (.tuple #[]) ∧ w'.ownsRow base 3 1 v l.length (nats l.reverse) ∧ w.grownBy w' v.ownBlock := by
  have h0 := h
  rw [nats_ints] at h0
  rcases h.2 with ⟨rfl, hn⟩ | ⟨g, cap, cur, rfl, hb, hg, hc, hm2, hs, ht⟩
  · have hl := List.eq_nil_of_length_eq_zero hn
    subst hl
    refine (Try.slices_Reverse_int_empty none 0 w).mono ?_
    rintro e w' ⟨rfl, q, rfl⟩
    exact ⟨rfl, World.ownsRow_nil _ _ _ _, ⟨rfl, rfl, rfl, Nat.le_refl _, fun _ _ _ => rfl⟩⟩
  · have ht' : cur.toList.take (l.map fun (n : Nat) => (n : Int)).length = (l.map fun (n : Nat) => (n : Int)).map (Value.int .i64) := by
      rw [Nat.mul_one] at ht
      rw [List.length_map, ht, nats_ints]; rfl
    have hH := holds_of_blockI (ss := l.map fun (n : Nat) => (n : Int)) hg ht'
    have := Try.slices_Reverse_int g 0 cap (l.map fun (n : Nat) => (n : Int)) w hH (by simp; omega)
    rw [List.length_map] at this
    refine this.mono ?_
    rintro e w' ⟨rfl, q, rfl⟩
    refine ⟨rfl, ?_, ?_⟩
    · have h1 := Lib.ownsRow_putRow (enc := Value.int .i64) (q := q) (k := l.length) (ys := (l.map fun (n : Nat) => (n : Int)).reverse) (zs := l.map fun (n : Nat) => (n : Int)) (w := w) h0 (by simp) (Nat.le_refl _)
      rw [List.take_of_length_le (by simp)] at h1
      have e1 : nats l.reverse = ((l.map fun (n : Nat) => (n : Int)).reverse).map (Value.int .i64) := by simp [nats, List.map_reverse, Function.comp_def]
      rw [e1]; exact h1
    · refine ⟨rfl, rfl, rfl, by simp [Sort.ahead], fun k hk hne => ?_⟩
      have : g ≠ k := fun e => hne (by rw [e]; rfl)
      simp [Sort.putRow, Sort.mapBlock, Sort.ahead, Array.getElem?_modify, this]

/-- The knots that count, put together. -/
def onOf (adj : Nat → List Nat) (Ks : List (List Nat)) : List Nat := (Ks.filter fun K => counts adj K).flatten
theorem onOf_snoc (adj : Nat → List Nat) (Ks : List (List Nat)) (K : List Nat) : onOf adj (Ks ++ [K]) = if counts adj K = true then onOf adj Ks ++ K else onOf adj Ks := by
  unfold onOf
  rw [List.filter_append, List.flatten_append]
  cases h : counts adj K <;> simp [h]

/-- What is so of a knot that is told. -/
def KOk (N : Nat) (adj : Nat → List Nat) (M : Nat) (l : List (Value × List Nat)) (W : World) : Prop :=
  M ≤ W.heap.size ∧ ∀ x, l.getLast? = some x → (∃ A c, x.1 = .slice A x.2.length c ∧ SlV W W.heap.size (.slice A x.2.length c) (nats x.2)) ∧ x.2 ≠ [] ∧ (∀ y ∈ x.2, y < N) ∧ x.2.length ≤ N ∧ (onOf adj (l.map (·.2))).length ≤ N
/-- What is so of all of them. -/
def KEnd (N : Nat) (adj : Nat → List Nat) (xs : List (Value × List Nat)) : Prop :=
  (onOf adj (xs.map (·.2))).Nodup ∧ ∀ y, y ∈ onOf adj (xs.map (·.2)) ↔ y < N ∧ Circ (EA adj) y

/-- A graph and the graph turned, as lists of places. -/
structure Two2 (N : Nat) (gL : List (List Int)) (adj adj' : Nat → List Nat) : Prop where
  len : gL.length = N
  row : ∀ a, a < N → rowOf gL a = coeL (adj a)
  row' : ∀ a, a < N → rowOf (turn gL) a = coeL (adj' a)
  fit : Fit N adj
  turns : ∀ x y, EA adj' x y ↔ EA adj y x
  le : ∀ a, (adj a).length ≤ 1000
  le' : ∀ a, (adj' a).length ≤ 1000
  small : Small gL

/-- The way there: from the first k places on. -/
structure KA (W3 : World) (B tb bb eb N : Nat) (A : Option Addr) (c : Nat) (gL : List (List Int)) (adj : Nat → List Nat) (k : Nat) (lv : Value) (been : Nat → Bool) (ed : Nat → Nat) (L : List Nat) (wr : World) : Prop where
  tr : TrM wr B tb bb eb N A c gL been ed
  rest : Cy.Rest N adj been ed L
  has : ∀ x, x < k → x ∈ L
  own : wr.ownsRow W3.heap.size 3 1 lv L.length (nats L)
  keeps : Keeps (fun b => b < W3.heap.size ∧ b ≠ bb ∧ b ≠ eb) W3 wr

theorem KA.start {W3 : World} {B tb bb eb N : Nat} {A : Option Addr} {c : Nat} {gL : List (List Int)} {adj : Nat → List Nat} (h : TrM W3 B tb bb eb N A c gL (fun _ => false) (fun _ => 0)) (hr : Cy.Rest N adj (fun _ => false) (fun _ => 0) []) : KA W3 B tb bb eb N A c gL adj 0 (.slice none 0 0) (fun _ => false) (fun _ => 0) [] W3 :=
  ⟨h, hr, fun x hx => by omega, World.ownsRow_nil _ _ _ _, Keeps.refl _ _⟩

theorem rest_nil (N : Nat) (adj : Nat → List Nat) : Cy.Rest N adj (fun _ => false) (fun _ => 0) [] where
  mem x := by simp
  nodup := by simp
  bound x hx := by simp at hx
  gone x j hj := by omega
  shut u y hu := by simp at hu
  late v u hv := by simp at hv
  edle x := Nat.zero_le _

theorem TrM.keepG {w w' : World} {B tb bb eb N : Nat} {Ag : Option Addr} {cg : Nat} {gL : List (List Int)} {been : Nat → Bool} {ed : Nat → Nat} (h : TrM w B tb bb eb N Ag cg gL been ed) {U : Nat → Prop} (hk : Keeps U w w') (h1 : U tb) (h2 : U bb) (h3 : U eb) (hg : Gr w' B (.slice Ag N cg) gL) : TrM w' B tb bb eb N Ag cg gL been ed where
  blk := (hk.block _ h1 h.blk.lt).trans h.blk
  bk := (hk.block _ h2 h.bk.lt).trans h.bk
  ek := (hk.block _ h3 h.ek.lt).trans h.ek
  gr := hg
  tb_bb := h.tb_bb
  tb_eb := h.tb_eb
  bb_eb := h.bb_eb
  ltb := h.ltb
  lbb := h.lbb
  leb := h.leb

/-- The way back: what was told, and what was left for it. -/
structure KB (W W5 w1 w2 : World) (B b1 tb bb eb N : Nat) (A3 : Option Addr) (c3 : Nat) (gL : List (List Int)) (adj adj' : Nat → List Nat) (L : List Nat) (J : Nat → List (Value × List Nat) → World → Prop) (k : Nat) (pre : List (Value × List Nat)) (been : Nat → Bool) (ed : Nat → Nat) (L2 : List Nat) (wr : World) : Prop where
  tr : TrM wr w2.heap.size tb bb eb N A3 c3 (turn gL) been ed
  kn : Cy.Knots N adj adj' been ed ((L.reverse.take k).reverse) L2 (onOf adj (pre.map (·.2)))
  j : J W5.heap.size pre wr
  keeps : Keeps (fun b => b ≠ bb ∧ b ≠ eb ∧ (b < B ∨ b = b1 ∨ (W.heap.size ≤ b ∧ b < W5.heap.size))) W5 wr

/-- Where the trails lie. -/
structure KL (W w1 w2 w3 : World) (B tb bb eb tb' bb' eb' N : Nat) (A A3 : Option Addr) (c c3 : Nat) (gL : List (List Int)) : Prop where
  t1 : TrM w3 B tb bb eb N A c gL (fun _ => false) (fun _ => 0)
  t2 : TrM w3 w2.heap.size tb' bb' eb' N A3 c3 (turn gL) (fun _ => false) (fun _ => 0)
  lo : W.heap.size ≤ tb ∧ W.heap.size ≤ bb ∧ W.heap.size ≤ eb
  hi : tb < w1.heap.size ∧ bb < w1.heap.size ∧ eb < w1.heap.size
  lo' : w2.heap.size ≤ tb' ∧ w2.heap.size ≤ bb' ∧ w2.heap.size ≤ eb'
  hi' : tb' < w3.heap.size ∧ bb' < w3.heap.size ∧ eb' < w3.heap.size
  sz : W.heap.size ≤ w1.heap.size ∧ w1.heap.size ≤ w2.heap.size ∧ w2.heap.size ≤ w3.heap.size
  bel : Below W.heap.size W w3
  gk : ∀ X, Keeps (fun k => w1.heap.size ≤ k ∧ k < w2.heap.size) w3 X → Gr X w2.heap.size (.slice A3 N c3) (turn gL)

theorem KL.make {W w1 w2 w3 : World} {B tb bb eb tb' bb' eb' N : Nat} {A A3 : Option Addr} {c c3 : Nat} {gL : List (List Int)} (hB : B ≤ W.heap.size) (h1 : TrM w1 B tb bb eb N A c gL (fun _ => false) (fun _ => 0)) (hl1 : W.heap.size ≤ tb ∧ W.heap.size ≤ bb ∧ W.heap.size ≤ eb) (hb1 : Below W.heap.size W w1)
    (hb2 : Below w1.heap.size w1 w2) (hk2 : ∀ X, Keeps (fun k => w1.heap.size ≤ k) w2 X → Gr X w2.heap.size (.slice A3 N c3) (turn gL)) (h3 : TrM w3 w2.heap.size tb' bb' eb' N A3 c3 (turn gL) (fun _ => false) (fun _ => 0)) (hl3 : w2.heap.size ≤ tb' ∧ w2.heap.size ≤ bb' ∧ w2.heap.size ≤ eb') (hb3 : Below w2.heap.size w2 w3) :
    KL W w1 w2 w3 B tb bb eb tb' bb' eb' N A A3 c c3 gL := by
  have h13 : Below w1.heap.size w1 w3 := hb2.trans (hb3.mono hb2.size)
  have e1 := h1.blk.lt
  have e2 := h1.bk.lt
  have e3 := h1.ek.lt
  exact ⟨h1.keep (U := fun k => k < w1.heap.size) (Keeps.of_below h13 fun k hk _ => hk) (Nat.le_trans hB hb1.size) (fun k hk => by have := hb1.size; omega), h3, hl1, ⟨e1, e2, e3⟩, hl3, ⟨h3.blk.lt, h3.bk.lt, h3.ek.lt⟩, ⟨hb1.size, hb2.size, hb3.size⟩, hb1.trans (h13.mono hb1.size),
    fun X hX => hk2 X ⟨hX.os.trans hb3.os, hX.tape.trans hb3.tape, hX.output.trans hb3.output, Nat.le_trans hb3.size hX.size, fun k hk hlt => (hX.block k ⟨hk, hlt⟩ (Nat.lt_of_lt_of_le hlt hb3.size)).trans (hb3.block k hlt)⟩⟩

section
variable {W3 : World} {B tb bb eb N : Nat} {A : Option Addr} {c : Nat} {gL : List (List Int)} {adj adj' : Nat → List Nat} {k : Nat} {lv : Value} {been : Nat → Bool} {ed : Nat → Nat} {L : List Nat} {wr : World}

theorem KA.few (h : KA W3 B tb bb eb N A c gL adj k lv been ed L wr) : L.length ≤ N := nodup_len _ _ h.rest.nodup h.rest.bound

theorem KA.own4 (h : KA W3 B tb bb eb N A c gL adj k lv been ed L wr) (hb : tb < W3.heap.size ∧ bb < W3.heap.size ∧ eb < W3.heap.size) {w4 : World} (hk : Keeps (fun b => b ≠ bb ∧ b ≠ eb ∧ b < wr.heap.size) wr w4) : w4.ownsRow W3.heap.size 3 1 lv L.length (nats L) :=
  own_keep h.own fun g hg hlt _ => hk.block g ⟨by omega, by omega, hlt⟩ hlt

theorem KA.next (h : KA W3 B tb bb eb N A c gL adj k lv been ed L wr) (hb : tb < W3.heap.size ∧ bb < W3.heap.size ∧ eb < W3.heap.size) (hB : B ≤ W3.heap.size) {w4 w5 : World} {v5 : Value} {been4 : Nat → Bool} {ed4 : Nat → Nat} {left4 : List Nat} (hg : Going N adj L k been4 ed4 [] left4)
    (ht : TrM w4 B tb bb eb N A c gL been4 ed4) (hk : Keeps (fun b => b ≠ bb ∧ b ≠ eb ∧ b < wr.heap.size) wr w4) (ho : w5.ownsRow W3.heap.size 3 1 v5 (L.length + left4.length) (nats L ++ nats left4)) (hgr : w4.grownBy w5 lv.ownBlock) :
    KA W3 B tb bb eb N A c gL adj (k + 1) v5 been4 ed4 (L ++ left4) w5 := by
  have hown := h.own4 hb hk
  have hk5 : Keeps (fun b => lv.ownBlock ≠ some b) w4 w5 := (Keeps.refl _ w4).grown hgr fun r hr h => h hr
  have hlo := hown.lt
  have hs3 := h.keeps.size
  refine ⟨ht.keep hk5 (by have := hk.size; omega) fun x hx e => by have := (hlo x e).1; omega, hg.rest, fun x hx => ?_, ?_, ?_⟩
  · rcases Nat.lt_or_ge x k with h1 | h1
    · exact List.mem_append.2 (.inl (h.has x h1))
    · obtain rfl : x = k := by omega
      rcases hg.has with h2 | h2 | h2
      · cases h2
      · exact List.mem_append.2 (.inr h2)
      · exact List.mem_append.2 (.inl h2.2.2)
  · rw [List.length_append, show nats (L ++ left4) = nats L ++ nats left4 by simp [nats]]
    exact ho
  · refine h.keeps.trans ((hk.mono fun b hb1 hA => ⟨hb1.2.1, hb1.2.2, hA⟩).trans (hk5.mono fun b hb1 hA e => ?_))
    have := (hlo b e).1
    omega
end

section
variable {W W5 w1 w2 w3 : World} {B b1 tb bb eb tb' bb' eb' N : Nat} {A A3 : Option Addr} {c c3 : Nat} {gL : List (List Int)} {adj adj' : Nat → List Nat} {L : List Nat} {J : Nat → List (Value × List Nat) → World → Prop} {k : Nat} {pre : List (Value × List Nat)} {been : Nat → Bool} {ed : Nat → Nat} {L2 : List Nat} {wr : World}

/-- From the way there to the way back. -/
theorem KB.start (h : KL W w1 w2 w3 B tb bb eb tb' bb' eb' N A A3 c c3 gL) {lv : Value} (ha : KA w3 B tb bb eb N A c gL adj N lv been ed L wr) (hg : wr.grownBy W5 lv.ownBlock)
    (hJ : ∀ M s X Y, W.heap.size ≤ M → J M s X → Keeps (fun k => k < W.heap.size ∨ M ≤ k) X Y → J M s Y) (h0 : ∀ M, W.heap.size ≤ M → J M [] W) :
    KB W W5 w1 w2 B b1 tb' bb' eb' N A3 c3 gL adj adj' L J 0 [] (fun _ => false) (fun _ => 0) [] W5 ∧ W.heap.size ≤ W5.heap.size ∧ w3.heap.size ≤ W5.heap.size := by
  have hlo := ha.own.lt
  have hl := h.lo
  have hh := h.hi
  have hl' := h.lo'
  have hh' := h.hi'
  have hsz := h.sz
  have hk5 : Keeps (fun b => b < w3.heap.size ∧ b ≠ bb ∧ b ≠ eb) w3 W5 := ha.keeps.trans (((Keeps.refl (fun b => lv.ownBlock ≠ some b) wr).grown hg fun r hr h => h hr).mono fun b hb _ e => by have := (hlo b e).1; omega)
  have hs5 := hk5.size
  refine ⟨⟨h.t2.keepG hk5 (by omega) (by omega) (by omega) (h.gk _ (hk5.mono fun b hb _ => by omega)), ?_, ?_, Keeps.refl _ _⟩, by omega, hs5⟩
  · exact Cy.Knots.start (rest_nil _ _)
  · refine hJ _ _ _ _ (by omega) (h0 _ (by omega)) ?_
    refine (Keeps.of_below (U := fun k => k < W.heap.size ∨ W5.heap.size ≤ k) h.bel fun k hk hA => hA).trans (hk5.mono fun b hb hA => ?_)
    omega

/-- Of the next place the trail back tells its knot, or nothing. -/
theorem KB.step (h : KL W w1 w2 w3 B tb bb eb tb' bb' eb' N A A3 c c3 gL) (h5 : W.heap.size ≤ W5.heap.size ∧ w3.heap.size ≤ W5.heap.size) (hb : KB W W5 w1 w2 B b1 tb' bb' eb' N A3 c3 gL adj adj' L J k pre been ed L2 wr)
    (hJ : ∀ M s X Y, W.heap.size ≤ M → J M s X → Keeps (fun k => k < W.heap.size ∨ M ≤ k) X Y → J M s Y)
    {w6 : World} (hk : Keeps (fun b => b ≠ bb' ∧ b ≠ eb' ∧ b < wr.heap.size) wr w6) :
    J W5.heap.size pre w6 ∧ Keeps (fun b => b ≠ bb' ∧ b ≠ eb' ∧ (b < B ∨ b = b1 ∨ (W.heap.size ≤ b ∧ b < W5.heap.size))) W5 w6 := by
  have hl' := h.lo'
  have hh' := h.hi'
  have hsz := h.sz
  refine ⟨hJ _ _ _ _ (by omega) hb.j (hk.mono fun b hb1 hA => ?_), hb.keeps.trans (hk.mono fun b hb1 hA => ⟨hb1.1, hb1.2.1, hA⟩)⟩
  omega

theorem rev_take {s : Nat} (hs : L.reverse[k]? = some s) : ((L.reverse.take (k + 1)).reverse) = s :: (L.reverse.take k).reverse ∧ ∃ a, L = a ++ s :: (L.reverse.take k).reverse := by
  obtain ⟨h1, h2⟩ := List.getElem?_eq_some_iff.1 hs
  have e1 : (L.reverse.take (k + 1)).reverse = s :: (L.reverse.take k).reverse := by
    rw [List.take_succ_eq_append_getElem h1, h2, List.reverse_append]; rfl
  refine ⟨e1, (L.reverse.drop (k + 1)).reverse, ?_⟩
  rw [← e1, ← List.reverse_append, List.take_append_drop, List.reverse_reverse]

theorem KB.none (h : KL W w1 w2 w3 B tb bb eb tb' bb' eb' N A A3 c c3 gL) (h5 : W.heap.size ≤ W5.heap.size ∧ w3.heap.size ≤ W5.heap.size) (hb : KB W W5 w1 w2 B b1 tb' bb' eb' N A3 c3 gL adj adj' L J k pre been ed L2 wr)
    (hJ : ∀ M s X Y, W.heap.size ≤ M → J M s X → Keeps (fun k => k < W.heap.size ∨ M ≤ k) X Y → J M s Y) {s : Nat} (hs : L.reverse[k]? = some s)
    {w6 : World} (hk : Keeps (fun b => b ≠ bb' ∧ b ≠ eb' ∧ b < wr.heap.size) wr w6) {been6 : Nat → Bool} {ed6 : Nat → Nat} (hg : Going N adj' L2 s been6 ed6 [] []) (ht : TrM w6 w2.heap.size tb' bb' eb' N A3 c3 (turn gL) been6 ed6) :
    KB W W5 w1 w2 B b1 tb' bb' eb' N A3 c3 gL adj adj' L J (k + 1) pre been6 ed6 L2 w6 := by
  obtain ⟨h1, h2⟩ := KB.step h h5 hb hJ hk
  refine ⟨ht, ?_, h1, h2⟩
  rw [(rev_take hs).1]
  refine hb.kn.old ?_ hg
  rcases hg.has with h3 | h3 | h3
  · cases h3
  · cases h3
  · exact h3.2.2

theorem KB.some (hD : Two2 N gL adj adj') {been' : Nat → Bool} {ed' : Nat → Nat} (hR : Cy.Rest N adj been' ed' L) (hall : ∀ x, x < N → x ∈ L) (hb : KB W W5 w1 w2 B b1 tb' bb' eb' N A3 c3 gL adj adj' L J k pre been ed L2 wr) {s : Nat} (hs : L.reverse[k]? = some s)
    {been6 : Nat → Bool} {ed6 : Nat → Nat} {K : List Nat} (hK : K ≠ []) (hg : Going N adj' L2 s been6 ed6 [] K) {v : Value} :
    Cy.Knots N adj adj' been6 ed6 ((L.reverse.take (k + 1)).reverse) (L2 ++ K) (onOf adj ((pre ++ [(v, K)]).map (·.2))) := by
  obtain ⟨e1, a, hab⟩ := rev_take hs
  have hsn : s ∈ K := by
    rcases hg.has with h3 | h3 | h3
    · cases h3
    · exact h3
    · exact absurd h3.2.1 hK
  have hnd := List.nodup_append.1 (show (L2 ++ K).Nodup from by simpa using hg.nodup)
  have hs2 : s ∉ L2 := fun e => hnd.2.2 s e s hsn rfl
  have hsN : s < N := hg.bound s (by simp [hsn])
  have := Cy.Knots.put hD.fit hD.turns hR.late hall hsN hab hb.kn hs2 hg
  rw [e1, List.map_append, List.map_cons, List.map_nil, onOf_snoc]
  exact this

theorem KB.next (h : KL W w1 w2 w3 B tb bb eb tb' bb' eb' N A A3 c c3 gL) (h5 : W.heap.size ≤ W5.heap.size ∧ w3.heap.size ≤ W5.heap.size)
    {w6 w7 : World} (hk : Keeps (fun b => b ≠ bb' ∧ b ≠ eb' ∧ (b < B ∨ b = b1 ∨ (W.heap.size ≤ b ∧ b < W5.heap.size))) W5 w6) {been6 : Nat → Bool} {ed6 : Nat → Nat} {L6 : List Nat} {pre6 : List (Value × List Nat)} (ht : TrM w6 w2.heap.size tb' bb' eb' N A3 c3 (turn gL) been6 ed6)
    (hg3 : ∀ X, Keeps (fun k => w1.heap.size ≤ k ∧ k < w2.heap.size) W5 X → Gr X w2.heap.size (.slice A3 N c3) (turn gL))
    (hkn : Cy.Knots N adj adj' been6 ed6 ((L.reverse.take k).reverse) L6 (onOf adj (pre6.map (·.2)))) (hj : J W5.heap.size pre6 w7) (hk7 : Keeps (fun k => k < B ∨ k = b1 ∨ (W.heap.size ≤ k ∧ k < W5.heap.size)) w6 w7) :
    KB W W5 w1 w2 B b1 tb' bb' eb' N A3 c3 gL adj adj' L J k pre6 been6 ed6 L6 w7 := by
  have hl' := h.lo'
  have hh' := h.hi'
  have hsz := h.sz
  have hkk : Keeps (fun b => b ≠ bb' ∧ b ≠ eb' ∧ (b < B ∨ b = b1 ∨ (W.heap.size ≤ b ∧ b < W5.heap.size))) W5 w7 := hk.trans (hk7.mono fun b hb _ => hb.2.2)
  exact ⟨ht.keepG hk7 (by omega) (by omega) (by omega) (hg3 _ (hkk.mono fun b hb _ => by omega)), hkn, hj, hkk⟩
end
end Go.Proofs.Ytlfgnoicjogfpaa.By
