/-
  GRAPHS THAT LIE IN MEMORY; a place is asked for; the document's Few and Edge. WHAT edges TELLS: each edge that leads to a place.
-/
import Derived.Test.YtlfgnoicjogfpaaRows
import Derived.Test.YtlfgnoicjogfpaaZd
import Derived.Test.YtlfgnoicjogfpaaZe
import Derived.Test.YtlfgnoicjogfpaaGn
import Derived.WalkKit
import Derived.ProofKit
import Derived.Lib.Hide
import Derived.BigQuiet
import Derived.Deep.QuietTactic
import Derived.LoopTactic
import Derived.IntWalk
import Derived.Shelf.Abstract
import Derived.OwnWalkIn
import Derived.TacticsInMore
import Derived.LoopNIn
import Derived.LoopIn
namespace Go.Proofs.Ytlfgnoicjogfpaa.By
open Go.RowKit
open Mem Gm Rf

theorem ret_bool {a b : Bool} (h : a = b) : Ending.returned (.bool a) = .returned (.bool b) := by rw [h]
theorem ret_int {k : IntKind} {a b : Int} (h : a = b) : Ending.returned (.int k a) = .returned (.int k b) := by rw [h]

/-- A place's row; a list's number. -/
def rowOf (g : List (List Int)) (a : Nat) : List Int := g.getD a []
def el (l : List Int) (i : Nat) : Int := l.getD i 0
theorem el_at {l : List Int} {i : Nat} (h : i < l.length) : l[i] = el l i := by unfold el; rw [List.getD_eq_getElem?_getD, List.getElem?_eq_getElem h]; rfl

def ints (l : List Int) : List Value := l.map (Value.int .i64)
def nats (l : List Nat) : List Value := l.map fun (n : Nat) => Value.int .i64 (n : Int)
theorem ints_at {l : List Int} {i : Nat} (hi : i < l.length) : (ints l)[i]? = some (.int .i64 (el l i)) := by
  rw [ints, List.getElem?_map, List.getElem?_eq_getElem hi, el_at hi]; rfl
theorem nats_ints (l : List Nat) : nats l = ints (l.map fun (n : Nat) => (n : Int)) := by simp [nats, ints]

/-- A value that reads as a graph, below B. -/
def Gr (w : World) (B : Nat) (v : Value) (g : List (List Int)) : Prop :=
  ∃ rs, SlV w B v rs ∧ rs.length = g.length ∧ ∀ i rv, rs[i]? = some rv → ∃ A c, rv = .slice A (rowOf g i).length c ∧ SlV w B rv (ints (rowOf g i))

section
variable {w w' : World} {B B' : Nat} {v : Value} {g : List (List Int)}
theorem Gr.keep (h : Gr w B v g) (hk : ∀ p : Addr, p.block < B → w'.cell? p = w.cell? p) : Gr w' B v g := by
  obtain ⟨rs, h1, h2, h3⟩ := h
  exact ⟨rs, h1.keep hk, h2, fun i rv hi => by obtain ⟨A, c, e, hs⟩ := h3 i rv hi; exact ⟨A, c, e, hs.keep hk⟩⟩
theorem Gr.more (h : Gr w B v g) (hB : B ≤ B') : Gr w B' v g := by
  obtain ⟨rs, h1, h2, h3⟩ := h
  exact ⟨rs, h1.more hB, h2, fun i rv hi => by obtain ⟨A, c, e, hs⟩ := h3 i rv hi; exact ⟨A, c, e, hs.more hB⟩⟩
theorem Gr.below (h : Gr w B v g) (hb : Below B w w') : Gr w' B v g := h.keep fun _ hp => hb.cell hp
theorem Gr.only (h : Gr w B v g) {r : Nat} (hg : w.grownBy w' (some r)) (hB : B ≤ w.heap.size) (hgB : B ≤ r) : Gr w' B v g :=
  h.keep fun p hp => World.cell?_of_block (hg.block p.block (by omega) (fun e => by injection e; omega))
/-- What there is to read: the header; a row's header; a number. -/
theorem Gr.form (h : Gr w B v g) : ∃ A c, v = .slice A g.length c := by
  obtain ⟨rs, h1, h2, _⟩ := h
  obtain ⟨A, c, e⟩ := h1.form
  exact ⟨A, c, by rw [e, h2]⟩
/-- The header's cells, by places. -/
theorem Gr.rows (h : Gr w B v g) (h0 : 0 < g.length) : ∃ ad c, v = .slice (some ad) g.length c ∧ g.length ≤ c ∧ c ≤ maxLen ∧ ad.block < B ∧
    ∀ i, i < g.length → ∃ A c, w.cell? (ad.add i) = some (.slice A (rowOf g i).length c) ∧ SlV w B (.slice A (rowOf g i).length c) (ints (rowOf g i)) := by
  obtain ⟨rs, h1, h2, h3⟩ := h
  cases h1 with
  | nil => simp at h2; omega
  | at_ ad cap _ hc hm hr =>
    have hrow : ∀ i, i < g.length → ∃ A c, w.cell? (ad.add i) = some (.slice A (rowOf g i).length c) ∧ SlV w B (.slice A (rowOf g i).length c) (ints (rowOf g i)) := fun i hi => by
      have hi' : i < rs.length := by omega
      obtain ⟨A, c, e, hs⟩ := h3 i _ (List.getElem?_eq_getElem hi')
      refine ⟨A, c, ?_, e ▸ hs⟩
      rw [hr.at_ hi', e]
    refine ⟨ad, cap, by rw [h2], by omega, hm, ?_, hrow⟩
    have := (hr 0 rs[0] (List.getElem?_eq_getElem (by omega))).1
    exact this
end

/-- A row that reads as numbers: nil, or its cells. -/
theorem ints_row {w : World} {B : Nat} {A : Option Addr} {c : Nat} {l : List Int} (h : SlV w B (.slice A l.length c) (ints l)) :
    (l = [] ∧ ((A = none ∧ c = 0) ∨ ∃ ad, A = some ad)) ∨ ∃ ad, A = some ad ∧ ad.block < B ∧ ∀ i, i < l.length → w.cell? (ad.add i) = some (.int .i64 (el l i)) := by
  rcases h.inv with ⟨rfl, h1, rfl, _⟩ | ⟨ad, rfl, _, _, _, hr⟩
  · left; exact ⟨List.eq_nil_of_length_eq_zero h1, .inl ⟨rfl, rfl⟩⟩
  · cases l with
    | nil => left; exact ⟨rfl, .inr ⟨ad, rfl⟩⟩
    | cons x l =>
      right
      refine ⟨ad, rfl, (hr 0 (.int .i64 x) (by simp [ints])).1, fun i hi => (hr i _ (ints_at hi)).2⟩

theorem isPlace_any (A : Option Addr) (n c : Nat) (p : Int) (w : World) : Calls Try.prog 144 #[.slice A n c, .int .i64 p] w fun e w' => e = .returned (.bool (decide (0 ≤ p) && decide (p < n))) ∧ w = w' := by
  by_cases h0 : 0 ≤ p
  · have h0' : decide (0 ≤ p) = true := decide_eq_true h0
    by_cases h1 : p < n
    · have h1' : decide (p < n) = true := decide_eq_true h1
      rw [h0', h1']
      go_enter Try.func144, Try.ntmps144
      go_wp2
      all_goals go_ret
      all_goals exact ⟨rfl, rfl⟩
    · have h1' : decide (p < n) = false := decide_eq_false h1
      rw [h0', h1']
      go_enter Try.func144, Try.ntmps144
      go_wp2
      all_goals go_ret
      all_goals exact ⟨rfl, rfl⟩
  · have h0' : decide (0 ≤ p) = false := decide_eq_false h0
    rw [h0', Bool.false_and]
    go_enter Try.func144, Try.ntmps144
    go_wp2
    all_goals go_ret
    all_goals exact ⟨rfl, rfl⟩

theorem edges_any (A : Option Addr) (n c : Nat) (w : World) :
    Calls Try.prog 110 #[.slice A n c] w fun e w' => e = .returned (.func (.func 143) #[] #[.pointer (some ⟨w.heap.size, 0, none⟩)]) ∧ w' = w.alloc (.cells #[.slice A n c] 22) := by
  go_enter Try.func110, Try.ntmps110
  go_wp2
  go_ret
  exact ⟨rfl, rfl⟩

theorem walk_any (A : Option Addr) (n c : Nat) (A2 : Option Addr) (n2 c2 : Nat) (w : World) :
    Calls Try.prog 133 #[.slice A n c, .slice A2 n2 c2] w fun e w' => e = .returned (.func (.func 161) #[] #[.pointer (some ⟨w.heap.size, 0, none⟩), .pointer (some ⟨w.heap.size + 1, 0, none⟩)]) ∧
      w' = (w.alloc (.cells #[.slice A n c] 22)).alloc (.cells #[.slice A2 n2 c2] 26) := by
  go_enter Try.func133, Try.ntmps133
  go_wp2
  go_ret
  exact ⟨rfl, rfl⟩
end Go.Proofs.Ytlfgnoicjogfpaa.By

namespace Go.Proofs.Ytlfgnoicjogfpaa.By
open Go.RowKit
open Mem Gm Rf
attribute [local go_sem] Oper.semAt_some

def rowE (g : List (List Int)) (a : Nat) (l : List Int) : List (Nat × Nat) := (l.filter (isP g)).map fun c => (a, c.toNat)
def edgesTo (g : List (List Int)) (k j : Nat) : List (Nat × Nat) := ((List.range k).flatMap fun a => rowE g a (rowOf g a)) ++ rowE g k ((rowOf g k).take j)
def edgesL (g : List (List Int)) : List (Nat × Nat) := (List.range g.length).flatMap fun a => rowE g a (rowOf g a)

theorem edgesTo_zero (g : List (List Int)) (k : Nat) : edgesTo g k 0 = (List.range k).flatMap fun a => rowE g a (rowOf g a) := by simp [edgesTo, rowE]
theorem edgesTo_next (g : List (List Int)) (k : Nat) : edgesTo g k (rowOf g k).length = edgesTo g (k + 1) 0 := by
  rw [edgesTo_zero, List.range_succ, List.flatMap_append, edgesTo, List.take_length]; simp
theorem edgesTo_more (g : List (List Int)) (k j : Nat) (h : j < (rowOf g k).length) :
    edgesTo g k (j + 1) = edgesTo g k j ++ (if isP g (el (rowOf g k) j) then [(k, (el (rowOf g k) j).toNat)] else []) := by
  unfold edgesTo rowE
  rw [List.take_succ_eq_append_getElem h, List.filter_append, List.map_append, List.append_assoc]
  rw [el_at h]
  by_cases hp : isP g (el (rowOf g k) j) = true
  · simp [hp]
  · simp [hp]
theorem edgesTo_all (g : List (List Int)) : edgesTo g g.length 0 = edgesL g := edgesTo_zero _ _
theorem edgesTo_up (g : List (List Int)) (k : Nat) : edgesTo g k 0 <+: edgesTo g (k + 1) 0 := by
  rw [edgesTo_zero, edgesTo_zero, List.range_succ, List.flatMap_append]; exact List.prefix_append _ _
theorem edgesTo_pre (g : List (List Int)) : ∀ d k, k + d = g.length → edgesTo g k 0 <+: edgesL g
  | 0, k, h => by rw [← edgesTo_all, show k = g.length by omega]; exact List.prefix_refl _
  | d + 1, k, h => (edgesTo_up g k).trans (edgesTo_pre g d (k + 1) (by omega))
theorem edgesTo_in (g : List (List Int)) {k j : Nat} (hk : k < g.length) : edgesTo g k j <+: edgesL g := by
  refine List.IsPrefix.trans ?_ (edgesTo_pre g (g.length - (k + 1)) (k + 1) (by omega))
  rw [← edgesTo_next]
  unfold edgesTo rowE
  refine (List.prefix_append_right_inj _).2 ?_
  rw [List.take_length]
  exact ((List.take_prefix j _).filter _).map _
theorem isP_bool (g : List (List Int)) (p : Int) : (decide (0 ≤ p) && decide (p < (g.length : Int))) = isP g p := rfl

set_option maxRecDepth 100000 in
set_option maxHeartbeats 2000000 in
theorem edges1_in (n : Nat) (hn : 1 ≤ n) (l Bg B : Nat) (A : Option Addr) (c : Nat) (g : List (List Int)) (J Jx : List (Nat × Nat) → World → Prop) (U : Nat → Prop) (hUg : U Bg) (hUB : ∀ k, k < B → U k)
    (hY : ∀ pre x W1, J pre W1 → pre ++ [x] <+: edgesL g → YieldAt Fence.wide (n - 1) Try.prog l #[.int .i64 (x.1 : Int), .int .i64 (x.2 : Int)] W1 fun e W' =>
      (e = .returned (.bool true) ∧ J (pre ++ [x]) W' ∧ Keeps U W1 W') ∨ (e = .returned (.bool false) ∧ Jx (pre ++ [x]) W'))
    (W : World) (hBg : W.cell? ⟨Bg, 0, none⟩ = some (.slice A g.length c)) (hG : Gr W B (.slice A g.length c) g) (h0 : J [] W) :
    CallsIn Fence.wide n Try.prog 143 #[.func (.yield l) #[] #[], .pointer (some ⟨Bg, 0, none⟩)] W fun e W' => (∃ v, e = .returned v) ∧
      (J (edgesL g) W' ∨ ∃ pre, pre <+: edgesL g ∧ Jx pre W') := by
  obtain ⟨N, hN⟩ : ∃ N, g.length = N := ⟨_, rfl⟩
  have HN := Lib.hid hN
  have hall := edgesTo_all g
  rw [hN] at hall hBg hG
  clear hN
  have hstart : edgesTo g 0 0 = [] := by simp [edgesTo, rowE, rowOf]
  have h0' : J (edgesTo g 0 0) W := by rw [hstart]; exact h0
  clear hstart h0
  have hrows : ∀ i, i < N → ∃ ad A' c', A = some ad ∧ (ad.add i).block < B ∧ W.cell? (ad.add i) = some (.slice A' (rowOf g i).length c') ∧ SlV W B (.slice A' (rowOf g i).length c') (ints (rowOf g i)) := fun i hi => by
    rw [← HN.out] at hG hi
    obtain ⟨ad, c2, e, _, _, hb, hr⟩ := hG.rows (by omega)
    injection e with e1
    obtain ⟨A', c', h1, h2⟩ := hr i hi
    exact ⟨ad, A', c', e1, by rw [add_block]; exact hb, h1, h2⟩
  have hmax : N ≤ 9223372036854775807 := by
    obtain ⟨rs, h1, h2, _⟩ := hG
    rcases h1.inv with ⟨_, h, _⟩ | ⟨_, _, _, h3, h4, _⟩
    · omega
    · unfold maxLen at h4; omega
  have hUB' := Lib.hid hUB
  have HR := Lib.hid hrows
  have HY := Lib.hid hY
  have HA := Lib.hid hall
  clear hrows hY hUB hG hall
  refine callsIn_of_wp Try.func143 rfl trivial ?_ rfl
  simp only [Try.ntmps143, List.size_toArray, List.length_cons, List.length_nil, Nat.reduceAdd, Nat.reduceSub, Array.replicate_succ, Array.replicate_zero, List.push_toArray, List.append_toArray, List.nil_append, List.cons_append]
  gi_wp2
  gi_loopw [9] (fun i wr => ∃ k : Nat, k ≤ N ∧ i = .int .i64 k ∧ J (edgesTo g k 0) wr ∧ Keeps U W wr) (fun i _ => N - (intOf i).toNat)
  case atStart => exact ⟨0, Nat.zero_le _, rfl, h0', Keeps.refl _ _⟩
  case round =>
    obtain ⟨k, hk, rfl, hJ, hK⟩ := hrel
    by_cases hlt : k < N
    · obtain ⟨ad, A', c', hA, hblk, hcell0, hsl0⟩ := HR.out k hlt
      subst hA
      have hcell := hK.cell (hUB'.out _ hblk) hcell0
      have hbox : wr.cell? ⟨Bg, 0, none⟩ = some (.slice (some ad) N c) := hK.cell hUg hBg
      obtain ⟨M, hM⟩ : ∃ M, (rowOf g k).length = M := ⟨_, rfl⟩
      have hmM : M ≤ 9223372036854775807 := by
        rcases hsl0.inv with ⟨_, h, _⟩ | ⟨_, _, _, h3, h4, _⟩
        · omega
        · unfold maxLen at h4; omega
      have hsl1 := ints_row hsl0
      rw [hM] at hcell hsl1
      have HM := Lib.hid hM
      have HS := Lib.hid hsl1
      have HG : Hid (k < g.length) := by have := HN.out; show k < g.length; omega
      have hnx := Lib.hid (edgesTo_next g k)
      clear hcell0 hsl0 hsl1 hM
      gi_wp2
      obtain ⟨wo, hwo⟩ : ∃ wo, wo = wr := ⟨_, rfl⟩
      subst hwo
      gi_loopw [16] (fun i wr => ∃ j : Nat, j ≤ M ∧ i = .int .i64 j ∧ J (edgesTo g k j) wr ∧ Keeps U W wr) (fun i _ => M - (intOf i).toNat)
      case atStart => exact ⟨0, Nat.zero_le _, rfl, hJ, hK⟩
      case round =>
        obtain ⟨j, hj, rfl, hJ2, hK2⟩ := hrel
        by_cases hjl : j < M
        · have hsl2 := HS.out
          have hne : (rowOf g k) ≠ [] := fun e => by have := HM.out; rw [e] at this; simp at this; omega
          rcases hsl2 with ⟨e, _⟩ | ⟨ad2, e, hb2, hc2⟩
          · exact absurd e hne
          have hel0 := hc2 j hjl
          subst e
          have hel := hK2.cell (hUB'.out _ (by rw [add_block]; exact hb2)) hel0
          have hbox2 : wr.cell? ⟨Bg, 0, none⟩ = some (.slice (some ad) N c) := hK2.cell hUg hBg
          clear hel0 hc2 hne
          have HE := Lib.hid (edgesTo_more g k j (by rw [HM.out]; exact hjl))
          obtain ⟨x, hx⟩ : ∃ x, el (rowOf g k) j = x := ⟨_, rfl⟩
          rw [hx] at hel HE
          clear hx
          have HP := Lib.hid (isPlace_any (some ad) N c x wr)
          have hbB : (decide (0 ≤ x) && decide (x < (N : Int))) = isP g x := by rw [← HN.out]; rfl
          rw [hbB] at HP
          clear hbB
          by_cases hp : isP g x = true
          · obtain ⟨y, rfl⟩ : ∃ y : Nat, x = (y : Int) := ⟨x.toNat, by have := isP_iff.1 hp; omega⟩
            rw [if_pos hp] at HE
            rw [hp] at HP
            clear hp
            have hpre : edgesTo g k j ++ [(k, y)] <+: edgesL g := by
              have h1 := HE.out
              rw [Int.toNat_natCast] at h1
              rw [← h1]; exact edgesTo_in g HG.out
            obtain ⟨fn, tmps, assign, body, hy, hR⟩ := HY.out _ (k, y) wr hJ2 hpre
            dsimp only at hy
            gi_wp2_with (refine ⟨trivial, ?_⟩; gi_at_call 144; refine (callsIn_wide.2 HP.out).mono ?_; rintro e w2 ⟨rfl, rfl⟩)
            refine hR.mono ?_
            rw [Int.toNat_natCast] at HE
            rintro e W3 (⟨rfl, hJ3, hk3⟩ | ⟨rfl, hJx3⟩)
            · gi_wp2
              go_roundw
              case rel => exact ⟨j + 1, by omega, by go_num, by rw [HE.out]; exact hJ3, hK2.trans hk3⟩
              case measure => simp [intOf]; omega
            · gi_wp2
              refine bodyPost_ret (results_none rfl _ _ _) rfl ?_
              exact ⟨⟨_, rfl⟩, .inr ⟨_, hpre, hJx3⟩⟩
          · have hp' : isP g x = false := by simpa using hp
            rw [if_neg hp, List.append_nil] at HE
            rw [hp'] at HP
            clear hp hp'
            gi_wp2_with (refine ⟨trivial, ?_⟩; gi_at_call 144; refine (callsIn_wide.2 HP.out).mono ?_; rintro e w2 ⟨rfl, rfl⟩)
            refine ⟨fun _ h => (by cases h), ?_⟩
            gi_wp2
            go_roundw
            case rel => exact ⟨j + 1, by omega, by go_num, by rw [HE.out]; exact hJ2, hK2⟩
            case measure => simp [intOf]; omega
        · obtain rfl : j = M := by omega
          have hJ3 : J (edgesTo g (k + 1) 0) wr := by
            have := hnx.out
            rw [HM.out] at this
            rw [← this]; exact hJ2
          gi_wp2
          go_roundw
          case rel => exact ⟨k + 1, by omega, by go_num, hJ3, hK2⟩
          case measure => simp [intOf]; omega
    · obtain rfl : k = N := by omega
      rw [HA.out] at hJ
      gi_wp2
      go_end0
      exact ⟨⟨_, rfl⟩, .inl hJ⟩

/-- What edges hands back tells the edges: it turns nothing; a round keeps the graph and the box. -/
theorem edges_tells (n : Nat) (hn : 1 ≤ n) (Bg B : Nat) (A : Option Addr) (c : Nat) (g : List (List Int)) (w : World) (hBg : w.cell? ⟨Bg, 0, none⟩ = some (.slice A g.length c)) (hG : Gr w B (.slice A g.length c) g) (hB : B ≤ w.heap.size) :
    Tells Fence.wide n Try.prog 143 #[.pointer (some ⟨Bg, 0, none⟩)] (fun x : Nat × Nat => #[Value.int .i64 (x.1 : Int), Value.int .i64 (x.2 : Int)]) (fun _ k => k < B ∨ k = Bg) (fun _ _ => True) (edgesL g) w := by
  intro l J Jx W hW _ hY h0
  have hlt := World.block_lt_of_cell? w _ hBg
  exact edges1_in n hn l Bg B A c g J Jx (fun k => k < B ∨ k = Bg) (.inr rfl) (fun k hk => .inl hk) hY W ((hW.cell (p := ⟨Bg, 0, none⟩) hlt).trans hBg) (hG.below (hW.mono hB)) h0
end Go.Proofs.Ytlfgnoicjogfpaa.By
