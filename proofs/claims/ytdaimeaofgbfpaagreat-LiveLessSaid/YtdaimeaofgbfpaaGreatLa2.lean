/-
 La2
-/
import Derived.Test.YtdaimeaofgbfpaaGreatZa2
import Derived.Test.YtdaimeaofgbfpaaGreatPj2
import Derived.Test.YtdaimeaofgbfpaaGreatPg2
import Derived.Test.YtdaimeaofgbfpaaGreatPb2
import Derived.Below
import Derived.WalkKit
import Derived.ProofKit
import Derived.Lib.Hide
import Derived.BigQuiet
import Derived.Deep.QuietTactic
import Derived.LoopTactic
import Derived.IntWalk
import Derived.Shelf.Abstract
import Derived.OwnWalkIn
import Derived.TacticsInMore
import Derived.LoopNIn
import Derived.LoopIn
import Derived.Deep.RegionHeld3
import Derived.OrdersIn
import Derived.TacticsIn
import Derived.Laws.MakeOwn
import Derived.Sort.OwnSortedInts
import Derived.Lib.OwnBridge
import Derived.RangeFuncBox
import Derived.Sort.LoopGhostIn
import Derived.StillTailTactics
set_option linter.unusedSimpArgs false
set_option linter.unusedVariables false
namespace Go.Proofs.YtdaimeaofgbfpaaGreat.Gm
def Neat (g : List (List Int)) : Prop := ∀ a, a < g.length → (g.getD a []).Pairwise (· < ·) ∧ ∀ c ∈ g.getD a [], isP g c = true
theorem gr_length (n : Nat) (R : Nat → Nat → Bool) : (gr n R).length = n := by simp [gr]
theorem gr_row {n : Nat} {R : Nat → Nat → Bool} {a : Nat} (ha : a < n) : (gr n R).getD a [] = ((List.range n).filter (R a)).map fun (b : Nat) => (b : Int) := by
 unfold gr; rw [List.getD_eq_getElem?_getD, List.getElem?_map, List.getElem?_range ha]; rfl
theorem gr_mem {n : Nat} {R : Nat → Nat → Bool} {a : Nat} (ha : a < n) (c : Int) : c ∈ (gr n R).getD a [] ↔ ∃ b : Nat, c = b ∧ b < n ∧ R a b = true := by
 rw [gr_row ha, List.mem_map]
 constructor
 ·rintro ⟨b, hb, rfl⟩
  rw [List.mem_filter, List.mem_range] at hb
  exact ⟨b, rfl, hb.1, hb.2⟩
 ·rintro ⟨b, rfl, h1, h2⟩
  exact ⟨b, by rw [List.mem_filter, List.mem_range]; exact ⟨h1, h2⟩, rfl⟩
theorem gr_neat (n : Nat) (R : Nat → Nat → Bool) : Neat (gr n R) := by
 intro a ha
 rw [gr_length] at ha
 refine ⟨?_, fun c hc => ?_⟩
 ·rw [gr_row ha, List.pairwise_map]
  refine List.Pairwise.imp ?_ ((List.pairwise_lt_range).filter _)
  intro x y h; omega
 ·obtain ⟨b, rfl, hb, _⟩ := (gr_mem ha c).1 hc
  exact isP_iff.2 ⟨by omega, by rw [gr_length]; omega⟩
end Go.Proofs.YtdaimeaofgbfpaaGreat.Gm
namespace Go.Proofs.YtdaimeaofgbfpaaGreat.By
open Go.RowKit
open Mem Gm Rf
section
variable {w w' : World} {B B' : Nat} {v : Value} {g : List (List Int)}
end
theorem isPlace_any (A : Option Addr) (n c : Nat) (p : Int) (w : World) : Calls Tryz.prog 126 #[.slice A n c, .int .i64 p] w fun e w' => e = .returned (.bool (decide (0 ≤ p) && decide (p < n))) ∧ w = w' := by
 by_cases h0 : 0 ≤ p
 focus
  have h0' : decide (0 ≤ p) = true := decide_eq_true h0
  by_cases h1 : p < n
  focus
   have h1' : decide (p < n) = true := decide_eq_true h1
  rotate_left
  focus
   have h1' : decide (p < n) = false := decide_eq_false h1
  rotate_left
  all_goals
   rw [h0', h1']
 rotate_left 2
 focus
  have h0' : decide (0 ≤ p) = false := decide_eq_false h0
  rw [h0', Bool.false_and]
 rotate_left
 all_goals
  go_enter Tryz.func126, Tryz.ntmps126
  go_wp2
  all_goals go_ret
  all_goals exact ⟨rfl, rfl⟩
theorem edges_any (A : Option Addr) (n c : Nat) (w : World) :
  Calls Tryz.prog 98 #[.slice A n c] w fun e w' => e = .returned (.func (.func 131) #[] #[.pointer (some ⟨w.heap.size, 0, none⟩)]) ∧ w' = w.alloc (.cells #[.slice A n c] 41) := by
 go_enter Tryz.func98, Tryz.ntmps98
 go_wp2
 go_ret
 exact ⟨rfl, rfl⟩
theorem walk_any (A : Option Addr) (n c : Nat) (A2 : Option Addr) (n2 c2 : Nat) (w : World) :
  Calls Tryz.prog 82 #[.slice A n c, .slice A2 n2 c2] w fun e w' => e = .returned (.func (.func 124) #[] #[.pointer (some ⟨w.heap.size, 0, none⟩), .pointer (some ⟨w.heap.size + 1, 0, none⟩)]) ∧
   w' = (w.alloc (.cells #[.slice A n c] 41)).alloc (.cells #[.slice A2 n2 c2] 44) := by
 go_enter Tryz.func82, Tryz.ntmps82
 go_wp2
 go_ret
 exact ⟨rfl, rfl⟩
end Go.Proofs.YtdaimeaofgbfpaaGreat.By
namespace Go.Proofs.YtdaimeaofgbfpaaGreat.By
open Go.RowKit
open Mem Gm Rf
attribute [local go_sem] Oper.semAt_some
def rowE (g : List (List Int)) (a : Nat) (l : List Int) : List (Nat × Nat) := (l.filter (isP g)).map fun c => (a, c.toNat)
def edgesTo (g : List (List Int)) (k j : Nat) : List (Nat × Nat) := ((List.range k).flatMap fun a => rowE g a (rowOf g a)) ++ rowE g k ((rowOf g k).take j)
def edgesL (g : List (List Int)) : List (Nat × Nat) := (List.range g.length).flatMap fun a => rowE g a (rowOf g a)
theorem edgesTo_zero (g : List (List Int)) (k : Nat) : edgesTo g k 0 = (List.range k).flatMap fun a => rowE g a (rowOf g a) := by simp [edgesTo, rowE]
theorem edgesTo_next (g : List (List Int)) (k : Nat) : edgesTo g k (rowOf g k).length = edgesTo g (k + 1) 0 := by
 rw [edgesTo_zero, List.range_succ, List.flatMap_append, edgesTo, List.take_length]; simp
theorem edgesTo_more (g : List (List Int)) (k j : Nat) (h : j < (rowOf g k).length) :
  edgesTo g k (j + 1) = edgesTo g k j ++ (if isP g (el (rowOf g k) j) then [(k, (el (rowOf g k) j).toNat)] else []) := by
 unfold edgesTo rowE
 rw [List.take_succ_eq_append_getElem h, List.filter_append, List.map_append, List.append_assoc]
 rw [el_at h]
 by_cases hp : isP g (el (rowOf g k) j) = true
 ·simp [hp]
 ·simp [hp]
theorem edgesTo_all (g : List (List Int)) : edgesTo g g.length 0 = edgesL g := edgesTo_zero _ _
theorem edgesTo_up (g : List (List Int)) (k : Nat) : edgesTo g k 0 <+: edgesTo g (k + 1) 0 := by
 rw [edgesTo_zero, edgesTo_zero, List.range_succ, List.flatMap_append]; exact List.prefix_append _ _
theorem edgesTo_pre (g : List (List Int)) : ∀ d k, k + d = g.length → edgesTo g k 0 <+: edgesL g
 | 0, k, h => by rw [← edgesTo_all, show k = g.length by omega]; exact List.prefix_refl _
 | d + 1, k, h => (edgesTo_up g k).trans (edgesTo_pre g d (k + 1) (by omega))
theorem edgesTo_in (g : List (List Int)) {k j : Nat} (hk : k < g.length) : edgesTo g k j <+: edgesL g := by
 refine List.IsPrefix.trans ?_ (edgesTo_pre g (g.length - (k + 1)) (k + 1) (by omega))
 rw [← edgesTo_next]
 unfold edgesTo rowE
 refine (List.prefix_append_right_inj _).2 ?_
 rw [List.take_length]
 exact ((List.take_prefix j _).filter _).map _
set_option maxRecDepth 100000 in
set_option maxHeartbeats 2000000 in
theorem edges1_in (n : Nat) (hn : 1 ≤ n) (l Bg B : Nat) (A : Option Addr) (c : Nat) (g : List (List Int)) (J Jx : List (Nat × Nat) → World → Prop) (U : Nat → Prop) (hUg : U Bg) (hUB : ∀ k, k < B → U k)
  (hY : ∀ pre x W1, J pre W1 → pre ++ [x] <+: edgesL g → YieldAt Fence.wide (n - 1) Tryz.prog l #[.int .i64 (x.1 : Int), .int .i64 (x.2 : Int)] W1 fun e W' =>
   (e = .returned (.bool true) ∧ J (pre ++ [x]) W' ∧ Keeps U W1 W') ∨ (e = .returned (.bool false) ∧ Jx (pre ++ [x]) W'))
  (W : World) (hBg : W.cell? ⟨Bg, 0, none⟩ = some (.slice A g.length c)) (hG : Gr W B (.slice A g.length c) g) (h0 : J [] W) :
  CallsIn Fence.wide n Tryz.prog 131 #[.func (.yield l) #[] #[], .pointer (some ⟨Bg, 0, none⟩)] W fun e W' => (∃ v, e = .returned v) ∧
   (J (edgesL g) W' ∨ ∃ pre, pre <+: edgesL g ∧ Jx pre W') := by
 obtain ⟨N, hN⟩ : ∃ N, g.length = N := ⟨_, rfl⟩
 have HN := Hd hN
 have hall := edgesTo_all g
 rw [hN] at hall hBg hG
 clear hN
 have hstart : edgesTo g 0 0 = [] := by simp [edgesTo, rowE, rowOf]
 have h0' : J (edgesTo g 0 0) W := by rw [hstart]; exact h0
 clear hstart h0
 have hrows : ∀ i, i < N → ∃ ad A' c', A = some ad ∧ (ad.add i).block < B ∧ W.cell? (ad.add i) = some (.slice A' (rowOf g i).length c') ∧ SlV W B (.slice A' (rowOf g i).length c') (ints (rowOf g i)) := fun i hi => by
  rw [← HN.out] at hG hi
  obtain ⟨ad, c2, e, _, _, hb, hr⟩ := hG.rows (by omega)
  injection e with e1
  obtain ⟨A', c', h1, h2⟩ := hr i hi
  exact ⟨ad, A', c', e1, by rw [add_block]; exact hb, h1, h2⟩
 have hmax : N ≤ 9223372036854775807 := by
  obtain ⟨rs, h1, h2, _⟩ := hG
  rcases h1.inv with ⟨_, h, _⟩ | ⟨_, _, _, h3, h4, _⟩
  ·omega
  ·unfold maxLen at h4; omega
 have hUB' := Hd hUB
 have HR := Hd hrows
 have HY := Hd hY
 have HA := Hd hall
 clear hrows hY hUB hG hall
 refine callsIn_of_wp Tryz.func131 rfl trivial ?_ rfl
 simp only [Tryz.ntmps131, List.size_toArray, List.length_cons, List.length_nil, Nat.reduceAdd, Nat.reduceSub, Array.replicate_succ, Array.replicate_zero, List.push_toArray, List.append_toArray, List.nil_append, List.cons_append]
 gi_wp2
 gi_loopw [9] (fun i wr => ∃ k : Nat, k ≤ N ∧ i = .int .i64 k ∧ J (edgesTo g k 0) wr ∧ Keeps U W wr) (fun i _ => N - (intOf i).toNat)
 case atStart => exact ⟨0, Nat.zero_le _, rfl, h0', Keeps.refl _ _⟩
 case round =>
  obtain ⟨k, hk, rfl, hJ, hK⟩ := hrel
  by_cases hlt : k < N
  ·obtain ⟨ad, A', c', hA, hblk, hcell0, hsl0⟩ := HR.out k hlt
   subst hA
   have hcell := hK.cell (hUB'.out _ hblk) hcell0
   have hbox : wr.cell? ⟨Bg, 0, none⟩ = some (.slice (some ad) N c) := hK.cell hUg hBg
   obtain ⟨M, hM⟩ : ∃ M, (rowOf g k).length = M := ⟨_, rfl⟩
   have hmM : M ≤ 9223372036854775807 := by
    rcases hsl0.inv with ⟨_, h, _⟩ | ⟨_, _, _, h3, h4, _⟩
    ·omega
    ·unfold maxLen at h4; omega
   have hsl1 := ints_row hsl0
   rw [hM] at hcell hsl1
   have HM := Hd hM
   have HS := Hd hsl1
   have HG : Hid (k < g.length) := by have := HN.out; show k < g.length; omega
   have hnx := Hd (edgesTo_next g k)
   clear hcell0 hsl0 hsl1 hM
   gi_wp2
   obtain ⟨wo, hwo⟩ : ∃ wo, wo = wr := ⟨_, rfl⟩
   subst hwo
   gi_loopw [16] (fun i wr => ∃ j : Nat, j ≤ M ∧ i = .int .i64 j ∧ J (edgesTo g k j) wr ∧ Keeps U W wr) (fun i _ => M - (intOf i).toNat)
   case atStart => exact ⟨0, Nat.zero_le _, rfl, hJ, hK⟩
   case round =>
    obtain ⟨j, hj, rfl, hJ2, hK2⟩ := hrel
    by_cases hjl : j < M
    ·have hsl2 := HS.out
     have hne : (rowOf g k) ≠ [] := fun e => by have := HM.out; rw [e] at this; simp at this; omega
     rcases hsl2 with ⟨e, _⟩ | ⟨ad2, e, hb2, hc2⟩
     ·exact absurd e hne
     have hel0 := hc2 j hjl
     subst e
     have hel := hK2.cell (hUB'.out _ (by rw [add_block]; exact hb2)) hel0
     have hbox2 : wr.cell? ⟨Bg, 0, none⟩ = some (.slice (some ad) N c) := hK2.cell hUg hBg
     clear hel0 hc2 hne
     have HE := Hd (edgesTo_more g k j (by rw [HM.out]; exact hjl))
     obtain ⟨x, hx⟩ : ∃ x, el (rowOf g k) j = x := ⟨_, rfl⟩
     rw [hx] at hel HE
     clear hx
     have HP := Hd (isPlace_any (some ad) N c x wr)
     have hbB : (decide (0 ≤ x) && decide (x < (N : Int))) = isP g x := by rw [← HN.out]; rfl
     rw [hbB] at HP
     clear hbB
     by_cases hp : isP g x = true
     ·obtain ⟨y, rfl⟩ : ∃ y : Nat, x = (y : Int) := ⟨x.toNat, by have := isP_iff.1 hp; omega⟩
      rw [if_pos hp] at HE
      rw [hp] at HP
      clear hp
      have hpre : edgesTo g k j ++ [(k, y)] <+: edgesL g := by
       have h1 := HE.out
       rw [Int.toNat_natCast] at h1
       rw [← h1]; exact edgesTo_in g HG.out
      obtain ⟨fn, tmps, assign, body, hy, hR⟩ := HY.out _ (k, y) wr hJ2 hpre
      dsimp only at hy
      gi_wp2_with (refine ⟨trivial, ?_⟩; gi_at_call 126; refine (callsIn_wide.2 HP.out).mono ?_; rintro e w2 ⟨rfl, rfl⟩)
      refine hR.mono ?_
      rw [Int.toNat_natCast] at HE
      rintro e W3 (⟨rfl, hJ3, hk3⟩ | ⟨rfl, hJx3⟩)
      ·gi_wp2
       go_roundw
       case rel => exact ⟨j + 1, by omega, by go_num, by rw [HE.out]; exact hJ3, hK2.trans hk3⟩
       case measure => simp [intOf]; omega
      ·gi_wp2
       refine bodyPost_ret (results_none rfl _ _ _) rfl ?_
       exact ⟨⟨_, rfl⟩, .inr ⟨_, hpre, hJx3⟩⟩
     ·have hp' : isP g x = false := by simpa using hp
      rw [if_neg hp, List.append_nil] at HE
      rw [hp'] at HP
      clear hp hp'
      gi_wp2_with (refine ⟨trivial, ?_⟩; gi_at_call 126; refine (callsIn_wide.2 HP.out).mono ?_; rintro e w2 ⟨rfl, rfl⟩)
      refine ⟨fun _ h => (by cases h), ?_⟩
      gi_wp2
      go_roundw
      case rel => exact ⟨j + 1, by omega, by go_num, by rw [HE.out]; exact hJ2, hK2⟩
      case measure => simp [intOf]; omega
    ·obtain rfl : j = M := by omega
     have hJ3 : J (edgesTo g (k + 1) 0) wr := by
      have := hnx.out
      rw [HM.out] at this
      rw [← this]; exact hJ2
     gi_wp2
     go_roundw
     case rel => exact ⟨k + 1, by omega, by go_num, hJ3, hK2⟩
     case measure => simp [intOf]; omega
  ·obtain rfl : k = N := by omega
   rw [HA.out] at hJ
   gi_wp2
   go_end0
   exact ⟨⟨_, rfl⟩, .inl hJ⟩
theorem edges_tells (n : Nat) (hn : 1 ≤ n) (Bg B : Nat) (A : Option Addr) (c : Nat) (g : List (List Int)) (w : World) (hBg : w.cell? ⟨Bg, 0, none⟩ = some (.slice A g.length c)) (hG : Gr w B (.slice A g.length c) g) (hB : B ≤ w.heap.size) :
  Tells Fence.wide n Tryz.prog 131 #[.pointer (some ⟨Bg, 0, none⟩)] (fun x : Nat × Nat => #[Value.int .i64 (x.1 : Int), Value.int .i64 (x.2 : Int)]) (fun _ k => k < B ∨ k = Bg) (fun _ _ => True) (edgesL g) w := by
 intro l J Jx W hW _ hY h0
 have hlt := World.block_lt_of_cell? w _ hBg
 exact edges1_in n hn l Bg B A c g J Jx (fun k => k < B ∨ k = Bg) (.inr rfl) (fun k hk => .inl hk) hY W ((hW.cell (p := ⟨Bg, 0, none⟩) hlt).trans hBg) (hG.below (hW.mono hB)) h0
end Go.Proofs.YtdaimeaofgbfpaaGreat.By
namespace Go.Proofs.YtdaimeaofgbfpaaGreat.Rf
open Go.RowKit
def noDefer (ops : Array Oper) : Bool := ops.all fun o => match o.op with | .defer _ => false | _ => true
theorem uponIn_of {P : Program} {l n : Nat} {o : Oper} {a : Act} {K : Act → World → Prop} {Q : Exit → Act → World → Prop} (r : Result Next) (h : o.upon P a K Q r) : o.uponIn (Fence.wide.inRound l) n P a K Q r := by
 match r, h with
 | .ok (.value _) _, h => exact h
 | .ok .skip _, h => exact h
 | .ok (.defer _) _, h => exact h
 | .ok (.enter f args) w', h =>
  refine ⟨fun e => (by cases e), CallsIn.inRound l (callsIn_wide.2 ?_)⟩
  exact h.mono fun e w'' he => by cases e <;> exact he
 | .ok (.row row args) w', h =>
  exact ⟨fun e => (by cases e), fun c cs _ => let ⟨v, w2, r, s⟩ := h c cs; ⟨v, w2, r, stepsIn_wide.2 s⟩⟩
 | .halt (.panic _) _, h => exact h
theorem opIn_of {P : Program} {l n i : Nat} {ops : Array Oper} (hd : noDefer ops = true) {a : Act} {w : World} {K : Act → World → Prop} {Q : Exit → Act → World → Prop} (h : wpOp P ops (Only Q) i K a w) : wpOpIn (Fence.wide.inRound l) n P ops (Only Q) i K a w := by
 unfold wpOp at h
 unfold wpOpIn
 split at h
 ·rename_i e; rw [e]; exact h
 ·rename_i o e
  rw [e]
  have hnd : ∀ c, o.op ≠ .defer c := fun c ec => by
   have := Array.all_eq_true_iff_forall_mem.1 hd o (Array.mem_of_getElem? e)
   rw [ec] at this; cases this
  simp only
  by_cases hw : Region.wanted o (yielded ops a.tmps) = true
  ·rw [if_pos hw] at h ⊢
   rcases h with h | ⟨_, a', w', h⟩
   ·refine ⟨fun _ _ => trivial, ?_⟩
    have : o.semAt (Fence.wide.inRound l).round a.eval = execOp a.eval o := Oper.semAt_some l _ _ hnd
    rw [this]
    exact uponIn_of _ h
   ·exact h.elim
  ·rw [if_neg hw] at h ⊢
   exact ⟨fun _ _ => trivial, h⟩
theorem anyIn_of {P : Program} {l n : Nat} {ops : Array Oper} (hd : noDefer ops = true) {Q : Exit → Act → World → Prop} : ∀ (f : Nat) (listed : Array Bool) (a : Act) (w : World), wpAny P .any ops (Only Q) f listed a w → wpAnyIn (Fence.wide.inRound l) n P .any ops (Only Q) f listed a w
 | 0, _, _, _, h => h
 | f + 1, _, _, _, h => ⟨h.1, fun i hi => opIn_of hd (wpOp_mono (fun a' w' h' => anyIn_of hd f _ a' w' h') (h.2 i hi))⟩
theorem wpIn_region_round {P : Program} {id l n : Nat} {ops : Array Oper} {S : World → Prop} {Q : Exit → Act → World → Prop} {a : Act} {w : World} (hm : P.follows .mixedOrders = true) (hd : noDefer ops = true)
  (h : wpAnyH P .any ops (Only Q) S ops.size (Array.replicate ops.size false) a w.drew) : (Code.region id ops true).wpIn (Fence.wide.inRound l) n P Q a w :=
 wpIn_mono (wpIn_region_any hm (anyIn_of hd _ _ _ _ (wpAny_of_held _ _ _ _ h))) Only.imp
section
variable {P : Program} {w w' : World} {L e size n : Nat} {v : Value} {xs : List Value}
theorem Mid.tail {g off cap : Nat} (h : Mid w L e size (.slice (some ⟨g, off, none⟩) (n + 1) cap) (n + 1) xs) :
  Mid w L e size (.slice (if cap = 1 then some ⟨g, off, none⟩ else some ⟨g, off + size, none⟩) n (cap - 1)) n (xs.drop size) := by
 obtain ⟨h1, a, cap', hv, hc, hm, h2⟩ := h
 injection hv with e1 e2 e3
 subst e1 e3
 refine ⟨by rw [List.length_drop, h1, Nat.add_mul]; omega, _, _, rfl, by omega, by omega, ?_⟩
 rcases h2 with ⟨h2, _⟩ | ⟨g', off', cur, ha, hL, hg, hs, hx⟩
 ·omega
 ·injection ha with ha
  injection ha with ha1 ha2
  subst ha1 ha2
  by_cases hc1 : cap = 1
  ·rw [if_pos hc1]; exact .inl ⟨by omega, .inr ⟨_, rfl⟩⟩
  ·rw [if_neg hc1]
   refine .inr ⟨g, off + size, cur, rfl, hL, hg, ?_, fun j u hu => ?_⟩
   ·have : cap * size = (cap - 1) * size + size := by
     rw [show cap = (cap - 1) + 1 by omega, Nat.add_mul, Nat.one_mul, Nat.add_sub_cancel]
    omega
   ·rw [List.getElem?_drop] at hu
    rw [Nat.add_assoc]; exact hx _ u hu
theorem run_append_midroom (w : World) (t ty e : TypeId) (i : TypeInfo) (ht : P.underlying t = some (.slice e)) (hi : P.info? e = some i)
  (g off sLen sCap : Nat) (cur : Array Value) (hg : w.heap[g]? = some (.cells cur e (0, 0)))
  (a : Addr) (m c : Nat) (news : List Value) (hl : news.length = m * i.size) (hnews : ∀ j u, news[j]? = some u → w.cell? (a.add j) = some u) (h1 : ∀ u ∈ news, u.oneCell' = true)
  (hroom : sLen + m ≤ sCap) (hfit : off + sLen * i.size + news.length ≤ cur.size) :
  (Builtin.append_ #[t, t] ty #[.slice (some ⟨g, off, none⟩) sLen sCap, .slice (some a) m c]).run P w =
   .ok (.slice (some ⟨g, off, none⟩) (sLen + m) sCap) (w.setRow g (cur.toList.take (off + sLen * i.size) ++ news ++ cur.toList.drop (off + sLen * i.size + news.length)).toArray) := by
 have hf := run_firstCells_some (P := P) w i.size m a m c news hl hnews
 have hst := run_storeCells_at P g (off + sLen * i.size) e news 0 cur w hg (by simpa using hfit) h1
 have hadd : (⟨g, off, none⟩ : Addr).add (sLen * i.size) = ⟨g, off + sLen * i.size, none⟩ := Mem.add_plain _ _ _
 simp only [Nat.add_zero] at hst
 simp [Builtin.append_, run_underlying ht, sizeOf, typeInfo, hi, Builtin.lenOf, hroom, hf, hadd, hst]
theorem run_append_mid (w : World) (t ty e : TypeId) (i : TypeInfo) (z : Value) (size bytes : Nat) (ht : P.underlying t = some (.slice e)) (hi : P.info? e = some i) (hz : i.zero = some z)
  (hsize : i.size = size) (hby : i.bytes = bytes) (hzs : z.cells.size = size)
  (L : Nat) (v : Value) (n : Nat) (xs : List Value) (h : Mid w L e size v n xs)
  (a : Addr) (m c : Nat) (news : List Value) (hm : 0 < m) (hl : news.length = m * size) (hnews : ∀ j u, news[j]? = some u → w.cell? (a.add j) = some u) (h1 : ∀ u ∈ news, u.oneCell' = true)
  (h63 : n + m ≤ maxLen) (hbytes : (n + m) * bytes ≤ 140737488355328) (hL : L ≤ w.heap.size) :
  ∃ v' w', (Builtin.append_ #[t, t] ty #[v, .slice (some a) m c]).run P w = .ok v' w' ∧ Mid w' L e size v' (n + m) (xs ++ news) ∧ ∃ row, w.grownBy w' row ∧ ∀ r, row = some r → L ≤ r := by
 subst hsize hby
 have hsmall : n + m ≤ 9223372036854775807 := by simp only [maxLen] at h63; omega
 obtain ⟨hx, b, cap, rfl, hn, hcm, h2⟩ := h
 have hlen : (xs ++ news).length = (n + m) * i.size := by rw [List.length_append, hx, hl, Nat.add_mul]
 have grown : ∀ old, Mid (w.drew.alloc (.cells (xs.toArray ++ news.toArray ++ Builtin.zeroCells z.cells (grownCap w (n + m) old e - (n + m))) e)) L e i.size (.slice (some ⟨w.heap.size, 0, none⟩) (n + m) (grownCap w (n + m) old e)) (n + m) (xs ++ news) ∧
   ∃ row, w.grownBy (w.drew.alloc (.cells (xs.toArray ++ news.toArray ++ Builtin.zeroCells z.cells (grownCap w (n + m) old e - (n + m))) e)) row ∧ ∀ r, row = some r → L ≤ r := by
  intro old
  have hge := grownCap_ge w (n + m) old e
  have hcm := grownCap_le_maxLen w (n + m) old e h63
  refine ⟨⟨hlen, _, _, rfl, hge, hcm, .inr ⟨w.heap.size, 0, _, rfl, hL, heap_alloc_new w.drew _, ?_, fun j u hu => ?_⟩⟩, none, ⟨rfl, rfl, rfl, by simp, fun k hk _ => Below.heap_alloc w.drew _ k hk⟩, fun r hr => by cases hr⟩
  ·simp only [Array.size_append, List.size_toArray, size_zeroCells, hzs, hx, hl, Nat.zero_add, ← Nat.add_mul]
   rw [show n + m + (grownCap w (n + m) old e - (n + m)) = grownCap w (n + m) old e by omega]
   exact Nat.le_refl _
  ·rw [Nat.zero_add, ← Array.getElem?_toList, Array.toList_append, List.getElem?_append_left (by have := (List.getElem?_eq_some_iff.1 hu).1; simpa using this)]
   simpa using hu
 rcases h2 with ⟨hc0, hb⟩ | ⟨g, off, cur, rfl, hLg, hg, hs, hcell⟩
 ·subst hc0
  obtain rfl : n = 0 := by omega
  have hx0 : xs = [] := List.eq_nil_of_length_eq_zero (by simpa using hx)
  subst hx0
  have hgr := grown 0
  simp only [Nat.zero_add, List.nil_append] at hgr hbytes h63 ⊢
  rcases hb with rfl | ⟨ad, rfl⟩
  ·have hr := run_append_nil (P := P) w t ty e i z ht hi hz a m c news hl hnews hm (by omega) (by omega)
   simp only [Array.empty_append] at hgr
   exact ⟨_, _, hr, hgr.1, hgr.2⟩
  ·have hr := run_append_grow (P := P) w t ty e i z ht hi hz ad 0 0 [] (by simp) (by simp) a m c news hl hnews (by omega) (by omega) (growslice_fits (by omega) (by simpa using hbytes))
   simp only [Nat.zero_add] at hr
   exact ⟨_, _, hr, hgr.1, hgr.2⟩
 ·by_cases hroom : n + m ≤ cap
  ·have hmul : (n + m) * i.size ≤ cap * i.size := Nat.mul_le_mul_right _ hroom
   have hfit : off + n * i.size + news.length ≤ cur.size := by rw [hl]; rw [Nat.add_mul] at hmul; omega
   have hr := run_append_midroom (P := P) w t ty e i ht hi g off n cap cur hg a m c news hl hnews h1 hroom hfit
   refine ⟨_, _, hr, ⟨hlen, _, _, rfl, hroom, hcm, .inr ⟨g, off, _, rfl, hLg, setRow_heap w g cur _ e _ hg, ?_, fun j u hu => ?_⟩⟩, some g, ⟨rfl, rfl, rfl, by simp, fun k _ hk => setRow_other w g k _ (fun e => hk (by rw [e]))⟩, fun r hr => by cases hr; exact hLg⟩
   ·simp only [List.size_toArray, List.length_append, List.length_take, List.length_drop, Array.length_toList]
    omega
   ·rw [← Array.getElem?_toList]
    simp only [List.append_assoc]
    have hjl := (List.getElem?_eq_some_iff.1 hu).1
    rw [List.length_append] at hjl
    have htl : (cur.toList.take (off + n * i.size)).length = off + n * i.size := by rw [List.length_take, Array.length_toList]; omega
    by_cases hj : j < n * i.size
    ·rw [List.getElem?_append_left (by omega), List.getElem?_take_of_lt (by omega), Array.getElem?_toList]
     rw [List.getElem?_append_left (by omega)] at hu
     exact hcell j u hu
    ·rw [List.getElem?_append_right (by omega), htl, List.getElem?_append_left (by omega)]
     rw [List.getElem?_append_right (by omega), hx] at hu
     rw [show off + j - (off + n * i.size) = j - n * i.size by omega]
     exact hu
  ·have hr := run_append_grow (P := P) w t ty e i z ht hi hz ⟨g, off, none⟩ n cap xs hx (fun j u hu => by rw [Mem.add_plain, cell_of_row w g _ cur e (0, 0) hg]; exact hcell j u hu) a m c news hl hnews (by omega) (by omega) (growslice_fits (by omega) hbytes)
   have hgr := grown cap
   exact ⟨_, _, hr, hgr.1, hgr.2⟩
theorem wpList_append_mid (w : World) {ops : Array Oper} {rest : List Oper} {o : Oper} {a : Act} {Q : Exit → Act → World → Prop} (hgd : o.guard = none) (s x : Operand) (t : TypeId)
  (ho : o.op = .call { callee := .builtin .append, args := #[s, x], argTypes := #[t, t] })
  (e : TypeId) (i : TypeInfo) (z : Value) (size bytes : Nat) (ht : P.underlying t = some (.slice e)) (hi : P.info? e = some i) (hz : i.zero = some z)
  (hsize : i.size = size) (hby : i.bytes = bytes) (hzs : z.cells.size = size)
  (L : Nat) (v : Value) (n : Nat) (xs : List Value) (hs : a.eval s = v) (h : Mid w L e size v n xs)
  (ad : Addr) (m c : Nat) (news : List Value) (hx : a.eval x = .slice (some ad) m c) (hm : 0 < m) (hl : news.length = m * size) (hnews : ∀ j u, news[j]? = some u → w.cell? (ad.add j) = some u) (h1 : ∀ u ∈ news, u.oneCell' = true)
  (h63 : n + m ≤ maxLen) (hbytes : (n + m) * bytes ≤ 140737488355328) (hL : L ≤ w.heap.size)
  (hK : ∀ v' w' row, Mid w' L e size v' (n + m) (xs ++ news) → w.grownBy w' row → (∀ r, row = some r → L ≤ r) → wpList P ops Q rest (a.put o.dst v') w') : wpList P ops Q (o :: rest) a w :=
 wpList_plain hgd fun _ hK2 => by
  obtain ⟨v', w', hr, h2, row, h3, h4⟩ := run_append_mid (P := P) w t o.type e i z size bytes ht hi hz hsize hby hzs L v n xs h ad m c news hm hl hnews h1 h63 hbytes hL
  unfold Oper.wp execOp
  simp only [ho, resolve, invoke, builtin, Sem.run_bind, Sem.run_pure, Result.andThen_ok, List.map_toArray, List.map_cons, List.map_nil, hs, hx, hr]
  exact hK2 _ _ (hK v' w' row h2 h3 h4)
end
end Go.Proofs.YtdaimeaofgbfpaaGreat.Rf
namespace Go.Proofs.YtdaimeaofgbfpaaGreat.By
open Go.RowKit
open Mem Gm Rf
section
variable {w w' : World} {rb base : Nat} {T E : TypeId} {L : List (List Int)}
end
theorem step_append_where {P : Program} {ops : Array Oper} {o : Oper} {a : Act} {w : World} {K : Act → World → Prop} {Q : Exit → Act → World → Prop} {Z : Prop}
  (hgd : o.guard = none) (s x : Operand) (t : TypeId) (ho : o.op = .call { callee := .builtin .append, args := #[s, x], argTypes := #[t, t] })
  (base : Nat) (e : TypeId) (i : TypeInfo) (z : Value) (bytes : Nat) (ht : P.underlying t = some (.slice e)) (hi : P.info? e = some i) (hz : i.zero = some z)
  (hsize : i.size = 1) (hby : i.bytes = bytes) (hzs : z.cells.size = 1)
  (v : Value) (n : Nat) (xs : List Value) (hs : a.eval s = v) (hown : w.ownsRow base e 1 v n xs)
  (ad : Addr) (c : Nat) (u : Value) (hx : a.eval x = .slice (some ad) 1 c) (hu : w.cell? ad = some u) (h1 : u.oneCell' = true)
  (h63 : n + 1 ≤ maxLen) (hbytes : (n + 1) * bytes ≤ 140737488355328) (hbase : base ≤ w.heap.size)
  (hK : ∀ v' w', w'.ownsRow base e 1 v' (n + 1) (xs ++ [u]) → w.grownBy w' v.ownBlock → (v'.ownBlock = v.ownBlock ∨ v'.ownBlock = some w.heap.size) → K (a.put o.dst v') w') :
  if Region.wanted o (yielded ops a.tmps) = true then Oper.wp P o a w K Q else Z := by
 have hw : Region.wanted o (yielded ops a.tmps) = true := by simp [Region.wanted, hgd]
 rw [if_pos hw]
 have hnews : ∀ j y, [u][j]? = some y → w.cell? (ad.add j) = some y := fun j y hy => by
  cases j with
  | zero => simp at hy; subst hy; simpa [Addr.add] using hu
  | succ j => simp at hy
 have h1' : ∀ y ∈ [u], y.oneCell' = true := fun y hy => by rw [List.mem_singleton] at hy; subst hy; exact h1
 obtain ⟨v', w', hr, h2, h3, h4⟩ := run_append_own (P := P) w base t o.type e i z 1 bytes ht hi hz hsize hby hzs (by decide) v n xs hown ad 1 c [u] rfl hnews h1' h63 hbytes hbase
 have h5 := append_where (P := P) w base t o.type e i z 1 bytes ht hi hz hsize hby v n xs hown ad 1 c [u] (by decide) rfl hnews h1' h63 hbytes hr
 unfold Oper.wp execOp
 simp only [ho, resolve, invoke, builtin, Sem.run_bind, Sem.run_pure, Result.andThen_ok, List.map_toArray, List.map_cons, List.map_nil, hs, hx, hr]
 exact hK v' w' h2 h3 h5
end Go.Proofs.YtdaimeaofgbfpaaGreat.By
namespace Go.Proofs.YtdaimeaofgbfpaaGreat.By
open Go.RowKit
open Mem Gm Rf
attribute [local go_sem] Oper.semAt_some
def acc (n : Nat) (ps : List (Nat × Nat)) : List (List Int) := (List.range n).map fun i => (ps.filter fun x => x.1 == i).map fun x => (x.2 : Int)
theorem acc_length (n : Nat) (ps : List (Nat × Nat)) : (acc n ps).length = n := by simp [acc]
theorem acc_row {n i : Nat} (ps : List (Nat × Nat)) (hi : i < n) : rowOf (acc n ps) i = (ps.filter fun x => x.1 == i).map fun x => (x.2 : Int) := by
 unfold rowOf acc
 rw [List.getD_eq_getElem?_getD, List.getElem?_map, List.getElem?_range hi]; rfl
theorem acc_nil (n : Nat) : acc n [] = List.replicate n [] := by
 unfold acc
 apply List.ext_getElem
 ·simp
 ·intro i h1 h2; simp
theorem acc_snoc {n a b : Nat} (ps : List (Nat × Nat)) (ha : a < n) : acc n (ps ++ [(a, b)]) = (acc n ps).set a (rowOf (acc n ps) a ++ [(b : Int)]) := by
 apply List.ext_getElem
 ·simp [acc_length]
 ·intro i h1 h2
  rw [acc_length] at h1
  have e1 : (acc n (ps ++ [(a, b)]))[i]'(by rw [acc_length]; exact h1) = ((ps ++ [(a, b)]).filter fun x => x.1 == i).map fun x => (x.2 : Int) := by simp [acc]
  rw [e1, List.getElem_set]
  by_cases e : a = i
  ·subst e
   rw [if_pos rfl, acc_row ps ha, List.filter_append, List.map_append]
   simp
  ·rw [if_neg e, List.filter_append]
   simp [acc, e]
theorem acc_row_len {n i : Nat} (ps : List (Nat × Nat)) : (rowOf (acc n ps) i).length ≤ ps.length := by
 by_cases hi : i < n
 ·rw [acc_row ps hi, List.length_map]; exact List.length_filter_le _ _
 ·have : rowOf (acc n ps) i = [] := by
   unfold rowOf; rw [List.getD_eq_getElem?_getD, List.getElem?_eq_none (by rw [acc_length]; omega)]; rfl
  rw [this]; simp
theorem mem_edges {g : List (List Int)} {x : Nat × Nat} (h : x ∈ edgesL g) : x.1 < g.length ∧ x.2 < g.length ∧ (x.2 : Int) ∈ rowOf g x.1 := by
 unfold edgesL rowE at h
 obtain ⟨a, ha, hx⟩ := List.mem_flatMap.1 h
 obtain ⟨c, hc, rfl⟩ := List.mem_map.1 hx
 rw [List.mem_filter] at hc
 have hp := isP_iff.1 hc.2
 have ha := List.mem_range.1 ha
 refine ⟨ha, by show c.toNat < _; omega, ?_⟩
 show ((c.toNat : Nat) : Int) ∈ _
 rw [show ((c.toNat : Nat) : Int) = c by omega]
 exact hc.1
theorem edges_mem {g : List (List Int)} {a b : Nat} (ha : a < g.length) (hb : b < g.length) (h : (b : Int) ∈ rowOf g a) : (a, b) ∈ edgesL g := by
 unfold edgesL rowE
 refine List.mem_flatMap.2 ⟨a, List.mem_range.2 ha, List.mem_map.2 ⟨(b : Int), ?_, by simp⟩⟩
 rw [List.mem_filter]
 exact ⟨h, isP_iff.2 ⟨by omega, by omega⟩⟩
theorem acc_tidy (n : Nat) (ps : List (Nat × Nat)) (R : Nat → Nat → Bool) (h : ∀ a b, a < n → ((a, b) ∈ ps ↔ b < n ∧ R a b = true)) : (acc n ps).map tidyRow = gr n R := by
 apply List.ext_getElem
 ·simp [acc_length, gr_length]
 ·intro i h1 h2
  rw [gr_length] at h2
  have e1 : (gr n R)[i]'(by rw [gr_length]; exact h2) = (gr n R).getD i [] := by rw [List.getD_eq_getElem?_getD, List.getElem?_eq_getElem (by rw [gr_length]; exact h2)]; rfl
  have hr := gr_neat n R i (by rw [gr_length]; exact h2)
  rw [List.getElem_map, e1]
  refine rising_eq (tidyRow_rises _) hr.1 fun x => ?_
  rw [mem_tidyRow, gr_mem h2]
  have e2 : (acc n ps)[i]'(by rw [acc_length]; exact h2) = (ps.filter fun x => x.1 == i).map fun x => (x.2 : Int) := by simp [acc]
  rw [e2, List.mem_map]
  constructor
  ·rintro ⟨⟨a, b⟩, hx, rfl⟩
   rw [List.mem_filter] at hx
   have ha : a = i := by simpa using hx.2
   subst ha
   have := (h a b h2).1 hx.1
   exact ⟨b, rfl, this.1, this.2⟩
  ·rintro ⟨b, rfl, hb, hR⟩
   exact ⟨(i, b), List.mem_filter.2 ⟨(h i b h2).2 ⟨hb, hR⟩, by simp⟩, rfl⟩
theorem E_rowOf {g : List (List Int)} {a b : Nat} : E g a b = true ↔ a < g.length ∧ b < g.length ∧ (b : Int) ∈ rowOf g a := E_iff
theorem acc_clean (g : List (List Int)) : (acc g.length (edgesL g)).map tidyRow = clean g := by
 refine acc_tidy _ _ _ fun a b ha => ?_
 constructor
 ·intro h
  have := mem_edges h
  exact ⟨this.2.1, E_rowOf.2 this⟩
 ·rintro ⟨hb, hE⟩
  exact edges_mem ha hb (E_rowOf.1 hE).2.2
def Small (g : List (List Int)) : Prop := g.length ≤ 1000 ∧ (edgesL g).length ≤ 1000000
set_option maxRecDepth 100000 in
set_option maxHeartbeats 4000000 in
set_option linter.unusedSimpArgs false in
theorem clean_own (A : Option Addr) (c B : Nat) (g : List (List Int)) (w : World) (hG : Gr w B (.slice A g.length c) g) (hB : B ≤ w.heap.size) (hs : Small g) :
  Calls Tryz.prog 54 #[.slice A g.length c] w fun e w' => e = .returned (.slice (some ⟨w.heap.size, 0, none⟩) g.length g.length) ∧ (∃ base, w.heap.size < base ∧ OwnG w' w.heap.size base 44 3 (clean g)) ∧ Below w.heap.size w w' := by
 obtain ⟨i0, hi, hz0, hz1, hz2⟩ := info_parts infoI
 obtain ⟨N, hN⟩ : ∃ N, g.length = N := ⟨_, rfl⟩
 have hN1000 : N ≤ 1000 := hN ▸ hs.1
 have HE := Hd hs.2
 have HN := Hd hN
 have HG := Hd hG
 have HACC := Hd (acc_clean g)
 rw [hN] at HACC ⊢
 have hmk := make_rows N hN1000
 clear hN hG hs
 refine (callsIn_wide (n := 4)).1 ?_
 refine callsIn_of_wp_marks Tryz.func54 rfl trivial ?_ rfl
 simp only [Tryz.ntmps54, List.size_toArray, List.length_cons, List.length_nil, Nat.reduceAdd, Nat.reduceSub, Array.replicate_succ, Array.replicate_zero, List.push_toArray, List.append_toArray, List.nil_append, List.cons_append]
 gi_wp2_with (refine ⟨trivial, ?_⟩; gi_at_call 98; refine (callsIn_wide.2 (edges_any _ _ _ _)).mono ?_; rintro e w2 ⟨rfl, rfl⟩)
 obtain ⟨W0, hW0⟩ : ∃ W0, ((w.alloc (.cells (Array.replicate N (.slice none 0 0)) 44)).alloc (.cells #[.slice (some ⟨w.heap.size, 0, none⟩) N N] 41)).alloc (.cells #[.slice A N c] 41) = W0 := ⟨_, rfl⟩
 have hsz0 : W0.heap.size = w.heap.size + 3 := by rw [← hW0]; simp
 have hbx : W0.cell? ⟨w.heap.size + 2, 0, none⟩ = some (.slice A N c) := by rw [← hW0]; have := (Blk.new ((w.alloc (.cells (Array.replicate N (.slice none 0 0)) 44)).alloc (.cells #[.slice (some ⟨w.heap.size, 0, none⟩) N N] 41)) 41 #[.slice A N c]).cell 0; simpa using this
 have hvb0 : W0.cell? ⟨w.heap.size + 1, 0, none⟩ = some (.slice (some ⟨w.heap.size, 0, none⟩) N N) := by rw [← hW0]; have := ((Blk.new (w.alloc (.cells (Array.replicate N (.slice none 0 0)) 44)) 41 #[.slice (some ⟨w.heap.size, 0, none⟩) N N]).alloc (.cells #[.slice A N c] 41)).cell 0; simpa using this
 have hrb0 : Blk W0 w.heap.size 44 (Array.replicate N (.slice none 0 0)) := by rw [← hW0]; exact ((Blk.new w _ _).alloc _).alloc _
 have hb0 : Below w.heap.size w W0 := by rw [← hW0]; exact (((Below.refl _ w).alloc (Nat.le_refl _) _).alloc (by simp) _).alloc (by simp; omega) _
 have HT2 := Hd (show Tells Fence.wide 3 Tryz.prog 131 #[.pointer (some ⟨w.heap.size + 2, 0, none⟩)] (fun x : Nat × Nat => #[Value.int .i64 (x.1 : Int), Value.int .i64 (x.2 : Int)]) (fun _ k => k < B ∨ k = w.heap.size + 2) (fun _ _ => True) (edgesL g) W0 from
  edges_tells 3 (by decide) (w.heap.size + 2) B A c g W0 (by rw [HN.out]; exact hbx) (HG.out.below (hb0.mono hB)) (by omega))
 rw [hW0]
 have HW0 := Hd hW0
 clear hW0 hmk hbx
 refine wpIn_range rfl (by decide) (gf := 131) (lb := #[.pointer (some ⟨w.heap.size + 2, 0, none⟩)]) rfl trivial (enters_of Tryz.func131 (by kernel_rfl) rfl) HT2.out (Below.refl _ _) (fun _ => rfl)
  (fun k => ¬ Two W0.heap.size k) (fun k h h' => h' h) (fun _ _ => trivial) (fun _ _ => trivial) (by omega)
  (fun pre W => (W.cell? ⟨w.heap.size + 1, 0, none⟩ = some (.slice (some ⟨w.heap.size, 0, none⟩) N N) ∧ OwnG W w.heap.size (W0.heap.size + 2) 44 3 (acc N pre)) ∧ Below w.heap.size w W ∧ W0.heap.size ≤ W.heap.size)
  (fun _ _ _ => False)
  (fun pre X Y ⟨⟨h1, h2⟩, h3, h4⟩ hk => ⟨⟨hk.cell (by unfold Two; simp; omega) h1, h2.keep fun k hk1 hk2 => hk.block k (by unfold Two; omega) hk2⟩, h3.trans (hk.below (by omega) (fun k hk1 => by unfold Two; omega)), Nat.le_trans h4 hk.size⟩)
  (fun _ _ _ _ h _ _ => h)
  ⟨⟨hvb0, by rw [acc_nil]; exact OwnG.start _ _ _ hrb0⟩, hb0, Nat.le_refl _⟩
  (fun x => { tmps := #[.slice A N c, undef, .slice none 0 0, .pointer (some ⟨w.heap.size + 1, 0, none⟩), .int .i64 (x.1 : Int), .int .i64 (x.2 : Int), .slice A N c, .int .i64 (N : Int), .slice (some ⟨w.heap.size, 0, none⟩) N N, .slice A N c, .func (.func 131) #[] #[.pointer (some ⟨w.heap.size + 2, 0, none⟩)], .int .i64 (x.1 : Int), .int .i64 (x.2 : Int), undef, undef, undef, undef, undef, undef, undef, undef, undef, undef, undef, undef], defers := [] }) ?assign ?body ?done ?stop
 case assign =>
  intro l x W K hK
  gi_wp2
  exact hK
 case body =>
  rintro l pre x W ⟨⟨hvb, hown⟩, hbel, hsz⟩ hpre hsz2
  have hxm := mem_edges (hpre.subset (List.mem_append.2 (.inr (List.mem_singleton.2 rfl))))
  rw [HN.out] at hxm
  have hplen : pre.length < 1000000 := by
   have h1 := hpre.length_le
   have h2 := HE.out
   simp at h1; omega
  obtain ⟨rv, hrb, hfr, hone, hrow, ⟨RA, RC, hrvf⟩, hput⟩ := hown.at_ (by omega) (a := x.1) (by rw [acc_length]; exact hxm.1)
  have hrl : (rowOf (acc N pre) x.1).length < 1000000 := Nat.lt_of_le_of_lt (acc_row_len _) hplen
  have HLen1 : (rowOf (acc N pre) x.1).length + 1 ≤ maxLen := by unfold maxLen; omega
  have HLen2 : ((rowOf (acc N pre) x.1).length + 1) * 8 ≤ 140737488355328 := by omega
  have hownA := own_keep (w' := W.drew.alloc (.cells #[.int .i64 (x.2 : Int)] 3)) hrow (fun k _ hk _ => Below.heap_alloc _ _ _ hk)
  have hnewA : (W.drew.alloc (.cells #[.int .i64 (x.2 : Int)] 3)).cell? ⟨W.heap.size, 0, none⟩ = some (.int .i64 (x.2 : Int)) := by
   have := (Blk.new W.drew 3 #[.int .i64 (x.2 : Int)]).cell 0
   simpa using this
  have hvbA : (W.drew.alloc (.cells #[.int .i64 (x.2 : Int)] 3)).cell? ⟨w.heap.size + 1, 0, none⟩ = some (.slice (some ⟨w.heap.size, 0, none⟩) N N) := by
   rw [World.cell?_alloc_lt _ _ _ (by show w.heap.size + 1 < W.heap.size; omega)]; exact hvb
  have hrbA : (W.drew.alloc (.cells #[.int .i64 (x.2 : Int)] 3)).cell? ⟨w.heap.size, x.1, none⟩ = some rv := by
   rw [World.cell?_alloc_lt _ _ _ (by show w.heap.size < W.heap.size; omega)]; exact hrb
  have hrbA2 : (W.alloc (.cells #[.int .i64 (x.2 : Int)] 3)).cell? ⟨w.heap.size, x.1, none⟩ = some rv := hrbA
  have hfrA : (W.drew.alloc (.cells #[.int .i64 (x.2 : Int)] 3)).frozen? ⟨w.heap.size, x.1, none⟩ = false := by
   rw [World.frozen?_alloc_past _ _ _ (by show w.heap.size < W.heap.size; omega)]; exact hfr
  have Hvb : Hid (some (w.heap.size + 1) ≠ rv.ownBlock) := fun e => by have := (hrow.lt _ e.symm).1; omega
  have Hrb : Hid (some w.heap.size ≠ rv.ownBlock) := fun e => by have := (hrow.lt _ e.symm).1; omega
  have HEnd := Hd (show ∀ (g' cap' : Nat) (w' : World), w'.ownsRow (W0.heap.size + 2) 3 1 (.slice (some ⟨g', 0, none⟩) ((rowOf (acc N pre) x.1).length + 1) cap') ((rowOf (acc N pre) x.1).length + 1) (ints (rowOf (acc N pre) x.1) ++ [.int .i64 (x.2 : Int)]) →
    (W.drew.alloc (.cells #[.int .i64 (x.2 : Int)] 3)).grownBy w' rv.ownBlock →
    ((Value.slice (some ⟨g', 0, none⟩) ((rowOf (acc N pre) x.1).length + 1) cap').ownBlock = rv.ownBlock ∨ (Value.slice (some ⟨g', 0, none⟩) ((rowOf (acc N pre) x.1).length + 1) cap').ownBlock = some (W.drew.alloc (.cells #[.int .i64 (x.2 : Int)] 3)).heap.size) →
    Keeps (fun k => (k < B ∨ k = w.heap.size + 2) ∨ Two W0.heap.size k) W (w'.setCell ⟨w.heap.size, x.1, none⟩ (.slice (some ⟨g', 0, none⟩) ((rowOf (acc N pre) x.1).length + 1) cap')) ∧
    ((w'.setCell ⟨w.heap.size, x.1, none⟩ (.slice (some ⟨g', 0, none⟩) ((rowOf (acc N pre) x.1).length + 1) cap')).cell? ⟨w.heap.size + 1, 0, none⟩ = some (.slice (some ⟨w.heap.size, 0, none⟩) N N) ∧
     OwnG (w'.setCell ⟨w.heap.size, x.1, none⟩ (.slice (some ⟨g', 0, none⟩) ((rowOf (acc N pre) x.1).length + 1) cap')) w.heap.size (W0.heap.size + 2) 44 3 (acc N (pre ++ [x]))) ∧
    Below w.heap.size w (w'.setCell ⟨w.heap.size, x.1, none⟩ (.slice (some ⟨g', 0, none⟩) ((rowOf (acc N pre) x.1).length + 1) cap')) ∧ W0.heap.size ≤ (w'.setCell ⟨w.heap.size, x.1, none⟩ (.slice (some ⟨g', 0, none⟩) ((rowOf (acc N pre) x.1).length + 1) cap')).heap.size from by
   intro g' cap' w' h2 h3 h4
   have hr2 : ∀ r, rv.ownBlock = some r → W0.heap.size + 2 ≤ r := fun r e => (hrow.lt r e).1
   have hK1 : Keeps (fun k => (k < B ∨ k = w.heap.size + 2) ∨ Two W0.heap.size k) W w' := ((((Keeps.refl _ W).drew).alloc _).grown h3 fun r e h => by
    have := hr2 r e; unfold Two at h; omega)
   refine ⟨hK1.setCell (by unfold Two; simp; omega) _, ⟨?_, ?_⟩, ?_, ?_⟩
   ·rw [World.cell?_setCell_other _ _ _ _ (by simp)]
    exact h3.cell hvbA Hvb.out
   ·have h5 := hput (.slice (some ⟨g', 0, none⟩) ((rowOf (acc N pre) x.1).length + 1) cap') (rowOf (acc N pre) x.1 ++ [(x.2 : Int)]) w' rfl (by simpa [ints] using h2)
     (by
      rcases h4 with h4 | h4
      ·exact .inr (.inl h4)
      ·exact .inr (.inr ⟨_, h4, by simp⟩))
     (fun k hk hlt hne => (h3.block k (by simp; omega) (fun e => hne e.symm)).trans (Below.heap_alloc _ _ _ hlt))
    rw [← acc_snoc (b := x.2) pre hxm.1] at h5
    exact h5
   ·refine (hbel.trans ?_).setCell (p := ⟨w.heap.size, x.1, none⟩) (Nat.le_refl _) _
    exact (((Below.refl w.heap.size W).drew.alloc (by show w.heap.size ≤ W.heap.size; omega) _).grown h3 (by simp; omega) fun r e => by have := hr2 r e; omega)
   ·have := h3.size
    simp [World.setCell] at this ⊢; omega)
  have hHeld : W.drew.cell? ⟨w.heap.size + 1, 0, none⟩ = some (.slice (some ⟨w.heap.size, 0, none⟩) N N) := hvb
  have hrbD : W.drew.cell? ⟨w.heap.size, x.1, none⟩ = some rv := hrb
  have hx1 : ((x.1 : Nat) : Int) < (N : Int) := by have := hxm.1; omega
  have hx0 : (0 : Int) ≤ ((x.1 : Nat) : Int) := by omega
  have hx2 : x.1 < N := hxm.1
  clear hput hown hone hvb hrb hfr hbel hpre hxm hplen hrl
  subst hrvf
  gi_wp2
  refine wpIn_region_round (S := fun W' => W'.cell? ⟨w.heap.size + 1, 0, none⟩ = some (.slice (some ⟨w.heap.size, 0, none⟩) N N)) (by kernel_rfl) (by kernel_rfl) ?_
  refine tk6Z 0 1 2 3 4 6 hHeld ?_
  refine wpAnyH_ready (rs := [5, 7]) (by kernel_rfl) (by simp) ?_
  refine AllReadyH.cons rfl (fun K hK => ?_) (AllReadyH.cons rfl (fun K hK => ?_) AllReadyH.nil)
  ·go_simp
   refine hK.out _ _ (hHeld) ?_
   clear hK K hHeld
   intro hHeld
   try simp only [Act.put, nmZ]
   refine rd1Z 7 (fun K hK => ?_)
   go_simp
   refine hK.out _ _ (hvbA) ?_
   clear hK K hHeld
   intro hHeld
   try simp only [Act.put, nmZ]
   refine rd1Z 8 (fun K hK => ?_)
   refine step_append_where rfl (.tmp 18) (.tmp 20) 44 rfl (W0.heap.size + 2) 3 i0 (.int .i64 0) 8 Tryz.underlying44 hi hz0 hz1 hz2 rfl _ _ _ rfl hownA ⟨W.heap.size, 0, none⟩ 1 (.int .i64 (x.2 : Int)) rfl hnewA rfl HLen1 HLen2 (by simp; omega) ?_
   intro v' w' h2 h3 h4
   obtain ⟨g', cap', hv'⟩ := ownsRow_succ h2
   subst hv'
   have hvb' : w'.cell? ⟨w.heap.size + 1, 0, none⟩ = some (.slice (some ⟨w.heap.size, 0, none⟩) N N) := h3.cell hvbA (Hvb.out)
   have hrb' := h3.cell hrbA (Hrb.out)
   have hfr' : w'.frozen? ⟨w.heap.size, x.1, none⟩ = false := (World.frozen?_of_block (h3.block w.heap.size (World.block_lt_of_cell? _ _ hrbA) (Hrb.out))).trans hfrA
   refine hK.out _ _ (hvb') ?_
   clear hK K hHeld
   intro hHeld
   try simp only [Act.put, nmZ]
   refine rd1Z 9 (fun K hK => ?_)
   go_simp
   refine hK.out _ _ (hHeld) ?_
   clear hK K hHeld
   intro hHeld
   try simp only [Act.put, nmZ]
   refine rd1Z 10 (fun K hK => ?_)
   go_simp
   refine hK.out _ _ (by rw [World.cell?_setCell_other _ _ _ _ (by simp)]; exact hvb') ?_
   clear hK K hHeld
   intro hHeld
   try simp only [Act.put, nmZ]
   refine wpAnyH_done (by kernel_rfl) ?_ _
   refine (show Only _ .normal _ _ from ?_)
   exact HEnd.out _ _ _ h2 h3 h4
  ·go_simp
   refine hK.out _ _ (hvbA) ?_
   clear hK K hHeld
   intro hHeld
   try simp only [Act.put, nmZ]
   refine rd1Z 5 (fun K hK => ?_)
   go_simp
   refine hK.out _ _ (hvbA) ?_
   clear hK K hHeld
   intro hHeld
   try simp only [Act.put, nmZ]
   refine rd1Z 8 (fun K hK => ?_)
   refine step_append_where rfl (.tmp 18) (.tmp 20) 44 rfl (W0.heap.size + 2) 3 i0 (.int .i64 0) 8 Tryz.underlying44 hi hz0 hz1 hz2 rfl _ _ _ rfl hownA ⟨W.heap.size, 0, none⟩ 1 (.int .i64 (x.2 : Int)) rfl hnewA rfl HLen1 HLen2 (by simp; omega) ?_
   intro v' w' h2 h3 h4
   obtain ⟨g', cap', hv'⟩ := ownsRow_succ h2
   subst hv'
   have hvb' : w'.cell? ⟨w.heap.size + 1, 0, none⟩ = some (.slice (some ⟨w.heap.size, 0, none⟩) N N) := h3.cell hvbA (Hvb.out)
   have hrb' := h3.cell hrbA (Hrb.out)
   have hfr' : w'.frozen? ⟨w.heap.size, x.1, none⟩ = false := (World.frozen?_of_block (h3.block w.heap.size (World.block_lt_of_cell? _ _ hrbA) (Hrb.out))).trans hfrA
   refine hK.out _ _ (hvb') ?_
   clear hK K hHeld
   intro hHeld
   try simp only [Act.put, nmZ]
   refine rd1Z 9 (fun K hK => ?_)
   go_simp
   refine hK.out _ _ (hHeld) ?_
   clear hK K hHeld
   intro hHeld
   try simp only [Act.put, nmZ]
   refine rd1Z 10 (fun K hK => ?_)
   go_simp
   refine hK.out _ _ (by rw [World.cell?_setCell_other _ _ _ _ (by simp)]; exact hvb') ?_
   clear hK K hHeld
   intro hHeld
   try simp only [Act.put, nmZ]
   refine wpAnyH_done (by kernel_rfl) ?_ _
   refine (show Only _ .normal _ _ from ?_)
   exact HEnd.out _ _ _ h2 h3 h4
 case done =>
  rintro W ⟨⟨hvb, hown⟩, hbel, hsz⟩ hD
  have hlen : ∀ i, (rowOf (acc N (edgesL g)) i).length ≤ 1000000 := fun i => Nat.le_trans (acc_row_len _) (by have := HE.out; simpa using this)
  have HC := Hd (tidy_any W w.heap.size (W0.heap.size + 2) (acc N (edgesL g)) hown (by omega) (by rw [acc_length]; exact hN1000) hlen)
  rw [acc_length, HACC.out] at HC
  have hlt := (Array.getElem?_eq_some_iff.1 hD).1
  clear hlen
  gi_wp2_with (refine ⟨trivial, ?_⟩; gi_at_call 99; refine (callsIn_wide.2 HC.out).mono ?_; rintro e w2 ⟨rfl, hg2, hk2⟩)
  have hD2 : w2.heap[W0.heap.size]? = some (.deferred (some [])) := (hk2.block _ (by omega) hlt).trans hD
  rw [hsz0] at hD2
  have hg3 : OwnG (w2.putObj (w.heap.size + 3) (.deferred none)) w.heap.size (W0.heap.size + 2) 44 3 (clean g) := hg2.keep fun k hk _ => World.putObj_heap_other (by omega)
  refine ⟨by simp, .inl ⟨_, _, rfl, run_takeDeferred hD2, ?_⟩⟩
  refine ⟨_, results_tmp rfl _ _ _, rfl, ⟨_, by omega, hg3⟩, ?_⟩
  have h1 : Below w.heap.size w w2 := hbel.trans (hk2.below (by omega) fun k hk => by omega)
  exact h1.trans ⟨rfl, rfl, rfl, by simp, fun k hk => World.putObj_heap_other (by omega)⟩
 case stop =>
  rintro ch pre W _ h _
  exact h.elim
end Go.Proofs.YtdaimeaofgbfpaaGreat.By
namespace Go.Proofs.YtdaimeaofgbfpaaGreat.By
open Go.RowKit
open Mem Gm Rf
theorem infoS : (Tryz.prog.info? 164).map (fun i => (i.zero, i.size, i.bytes)) = some (some (.agg #[.int .i64 0, .int .i64 0]), 2, 16) := by kernel_rfl
def stepsC (q : List (Int × Int)) : List Value := q.flatMap fun s => [.int .i64 s.1, .int .i64 s.2]
theorem stepsC_append (q r : List (Int × Int)) : stepsC (q ++ r) = stepsC q ++ stepsC r := by simp [stepsC]
set_option maxHeartbeats 2000000 in
theorem steps_any (w : World) (L B : Nat) (v pv : Value) (q : List (Int × Int)) (ahead : Int) (ps : List Int) (hM : Mid w L 164 2 v q.length (stepsC q)) (hp : SlV w B pv (ints ps)) (hBL : B ≤ L) (hL : L ≤ w.heap.size) (hq : q.length ≤ 10000000) (hps : ps.length ≤ 10000000) :
  Calls Tryz.prog 125 #[v, .int .i64 ahead, pv] w fun e w' => ∃ v', e = .returned v' ∧ Mid w' L 164 2 v' (q.length + ps.length) (stepsC (q ++ ps.map fun p => (p, ahead))) ∧ Keeps (fun k => k < L) w w' := by
 obtain ⟨i0, hi, hz0, hz1, hz2⟩ := info_parts infoS
 obtain ⟨A, c, rfl⟩ := hp.form
 obtain ⟨N, hN⟩ : ∃ N, ps.length = N := ⟨_, rfl⟩
 have hl : (ints ps).length = N := by simp [ints, hN]
 rw [hl] at hp ⊢
 have hr := ints_row (l := ps) (by rw [hN]; exact hp)
 have h0 : Mid w L 164 2 v (q.length + 0) (stepsC (q ++ (ps.take 0).map fun p => (p, ahead))) := by simpa using hM
 have hall : q ++ (ps.take N).map (fun p => (p, ahead)) = q ++ ps.map fun p => (p, ahead) := by rw [← hN, List.take_length]
 rw [hN] at hps
 have HALL := Hd hall
 have HN := Hd hN
 have HR := Hd hr
 clear hM hp hl hr hall hN
 go_enter Tryz.func125, Tryz.ntmps125
 go_wp2
 go_loopw [0, 11] (fun u i wr => ∃ k : Nat, k ≤ N ∧ i = .int .i64 k ∧ Mid wr L 164 2 u (q.length + k) (stepsC (q ++ (ps.take k).map fun p => (p, ahead))) ∧ Keeps (fun k => k < L) w wr) (fun _ i _ => N - (intOf i).toNat)
 case atStart => exact ⟨0, Nat.zero_le _, rfl, h0, Keeps.refl _ _⟩
 case round =>
  obtain ⟨k, hk, rfl, hM, hK⟩ := hrel
  by_cases hlt : k < N
  ·have hr := HR.out
   have HNE : Hid (ps ≠ []) := fun e => by have := HN.out; rw [e] at this; simp at this; omega
   rcases hr with ⟨e, _⟩ | ⟨ad, rfl, hb, hc⟩
   ·exact absurd e HNE.out
   have hcell := hK.cell (show (ad.add k).block < L by rw [add_block]; omega) (hc k (by rw [HN.out]; exact hlt))
   obtain ⟨p, hpe⟩ : ∃ p, el ps k = p := ⟨_, rfl⟩
   rw [hpe] at hcell
   have HX : Hid (stepsC (q ++ (ps.take k).map fun p => (p, ahead)) ++ [.int .i64 p, .int .i64 ahead] = stepsC (q ++ (ps.take (k + 1)).map fun p => (p, ahead))) := by
    show _ = _
    have hkl : k < ps.length := by rw [HN.out]; exact hlt
    rw [List.take_succ_eq_append_getElem hkl, List.map_append, ← List.append_assoc, stepsC_append (q ++ List.map (fun p => (p, ahead)) (List.take k ps)), el_at hkl, hpe]
    rfl
   have hnew : ∀ j u, [Value.int .i64 p, .int .i64 ahead][j]? = some u → (wr.alloc (.cells #[.int .i64 p, .int .i64 ahead] 164)).cell? ((⟨wr.heap.size, 0, none⟩ : Addr).add j) = some u := fun j u hu => by
    rw [add_plain, Nat.zero_add, (Blk.new wr _ _).cell]; simpa using hu
   have hMA := Hd (hM.keep (w' := wr.alloc (.cells #[.int .i64 p, .int .i64 ahead] 164)) fun g _ hg => Below.heap_alloc _ _ _ hg)
   have HW := Hd hnew
   have HLs := Hd (show L ≤ (wr.alloc (.cells #[.int .i64 p, .int .i64 ahead] 164)).heap.size by have := hK.size; simp; omega)
   have HB1 := Hd (show q.length + k + 1 ≤ maxLen by unfold maxLen; omega)
   have HB2 := Hd (show (q.length + k + 1) * 16 ≤ 140737488355328 by omega)
   clear hM hnew hpe hc
   go_wp2_with (at_builtin; refine wpList_append_mid _ rfl _ _ 161 rfl 164 i0 (.agg #[.int .i64 0, .int .i64 0]) 2 16 Tryz.underlying161 hi hz0 hz1 hz2 rfl L _ _ _ rfl hMA.out ⟨wr.heap.size, 0, none⟩ 1 1 [.int .i64 p, .int .i64 ahead] rfl (by decide) rfl HW.out (by simp [Value.oneCell']) HB1.out HB2.out HLs.out ?_; intro v' w' row h2 h3 h4; have H2 := Hd h2; have H3 := Hd h3; have H4 := Hd h4; clear h2 h3 h4)
   have hM2 := H2.out
   rw [HX.out] at hM2
   have hK2 : Keeps (fun k => k < L) w w' := (hK.alloc _).grown H3.out fun r e h => by have := H4.out r e; omega
   go_roundw
   case rel => exact ⟨k + 1, by omega, by go_num, hM2, hK2⟩
   case measure => simp [intOf]; omega
  ·obtain rfl : k = N := by omega
   rw [HALL.out] at hM
   go_wp2
   go_ret
   exact ⟨_, rfl, by rw [HN.out]; exact hM, hK⟩
end Go.Proofs.YtdaimeaofgbfpaaGreat.By
namespace Go.Proofs.YtdaimeaofgbfpaaGreat.By
open Go.RowKit
open Mem Gm Rf
attribute [local go_sem] Oper.semAt_some
def ahd : List Nat → Int
 | [] => -1
 | u :: _ => u
def sk (s : Int × List Nat) : Int × Int := (s.1, ahd s.2)
def bools (n : Nat) (L : List (Nat × List Nat)) : Array Value := ((List.range n).map fun i => Value.bool ((L.map (·.1)).contains i)).toArray
theorem bools_at {n i : Nat} (L : List (Nat × List Nat)) (hi : i < n) : (bools n L)[i]? = some (.bool ((L.map (·.1)).contains i)) := by
 simp [bools, hi]
theorem bools_set {n a : Nat} (L : List (Nat × List Nat)) (t : List Nat) : (bools n L).setIfInBounds a (.bool true) = bools n (L ++ [(a, t)]) := by
 apply Array.ext
 ·simp [bools]
 ·intro i h1 h2
  have hi : i < n := by simpa [bools] using h2
  rw [Array.getElem_setIfInBounds (by simpa [bools] using hi)]
  by_cases e : a = i
  ·subst e; simp [bools]
  ·rw [if_neg e]
   simp [bools, Ne.symm e]
theorem bools_nil (n : Nat) : bools n [] = Array.replicate n (.bool false) := by
 apply Array.ext
 ·simp [bools]
 ·intro i h1 h2; simp [bools]
theorem ne_of_D {D : Nat → Prop} {n b1 b2 k : Nat} (hD : ∀ k, D k → k < n) (h1 : b1 < n) (h2 : b2 < n) (h : D k ∨ k = b1 ∨ k = b2) : k ≠ n := by
 rcases h with h | rfl | rfl
 ·have := hD k h; omega
 ·omega
 ·omega
theorem lt_of_D {D : Nat → Prop} {n b1 b2 k : Nat} (hD : ∀ k, D k → k < n) (h1 : b1 < n) (h2 : b2 < n) (h : D k ∨ k = b1 ∨ k = b2) : k < n + 1 := by
 rcases h with h | rfl | rfl
 ·have := hD k h; omega
 ·omega
 ·omega
set_option maxRecDepth 100000 in
set_option maxHeartbeats 4000000 in
theorem walk1_in (n : Nat) (hn : 1 ≤ n) (l b1 b2 B : Nat) (D : Nat → Prop) (A A2 : Option Addr) (c c2 : Nat) (g : List (List Int)) (fs : List Int) (J Jx : List (Nat × List Nat) → World → Prop)
  (W : World) (hbox1 : W.cell? ⟨b1, 0, none⟩ = some (.slice A g.length c)) (hbox2 : W.cell? ⟨b2, 0, none⟩ = some (.slice A2 fs.length c2))
  (hG : ∀ X, Keeps D W X → Gr X B (.slice A g.length c) g) (hF : SlV W B (.slice A2 fs.length c2) (ints fs)) (hD : ∀ k, D k → k < W.heap.size) (hB : B ≤ W.heap.size) (hs : g.length ≤ 1000) (hm : fuel g fs.length ≤ 1000000)
  (hJ : ∀ s X Y, J s X → Keeps (fun k => k < W.heap.size) X Y → J s Y)
  (hY : ∀ pre x W1, J pre W1 → pre ++ [x] <+: told g fs → YieldAt Fence.wide (n - 1) Tryz.prog l #[.int .i64 (x.1 : Int), .int .i64 (ahd x.2)] W1 fun e W' =>
   (e = .returned (.bool true) ∧ J (pre ++ [x]) W' ∧ Keeps (fun k => (D k ∨ k = b1 ∨ k = b2) ∨ W.heap.size ≤ k) W1 W') ∨ (e = .returned (.bool false) ∧ Jx (pre ++ [x]) W'))
  (h0 : J [] W) :
  CallsIn Fence.wide n Tryz.prog 124 #[.func (.yield l) #[] #[], .pointer (some ⟨b1, 0, none⟩), .pointer (some ⟨b2, 0, none⟩)] W fun e W' => (∃ v, e = .returned v) ∧
   (J (told g fs) W' ∨ ∃ pre, pre <+: told g fs ∧ Jx pre W') := by
 obtain ⟨N, hN⟩ : ∃ N, g.length = N := ⟨_, rfl⟩
 have hlt1 := World.block_lt_of_cell? W _ hbox1
 have hlt2 := World.block_lt_of_cell? W _ hbox2
 have HN := Hd hN
 have HG := Hd hG
 have HY := Hd hY
 have HJ := Hd hJ
 have HM := Hd hm
 rw [hN] at hbox1 hs HG
 have hmk := make_bools N hs
 have HS1 := Hd (show Calls Tryz.prog 125 #[.slice none 0 0, .int .i64 (-1), .slice A2 fs.length c2] (W.alloc (.cells (Array.replicate N (.bool false)) 4)) fun e w' => ∃ v', e = .returned v' ∧ Mid w' (W.heap.size + 1) 164 2 v' (0 + fs.length) (stepsC ([] ++ fs.map fun p => (p, -1))) ∧ Keeps (fun k => k < W.heap.size + 1) (W.alloc (.cells (Array.replicate N (.bool false)) 4)) w' from
  steps_any _ (W.heap.size + 1) B (.slice none 0 0) (.slice A2 fs.length c2) [] (-1) fs (Mid.nil _ _ _ _) (hF.below ((Below.refl B W).alloc hB _)) (by omega) (by simp) (by simp) (by unfold fuel at hm; omega))
 clear hN hG hY hJ hm hF
 refine callsIn_of_wp Tryz.func124 rfl trivial ?_ rfl
 simp only [Tryz.ntmps124, List.size_toArray, List.length_cons, List.length_nil, Nat.reduceAdd, Nat.reduceSub, Array.replicate_succ, Array.replicate_zero, List.push_toArray, List.append_toArray, List.nil_append, List.cons_append]
 gi_wp2_with (refine ⟨trivial, ?_⟩; gi_at_call 125; refine (callsIn_wide.2 HS1.out).mono ?_; rintro e w1 ⟨v1, rfl, hM1, hK1⟩; have HM1 := Hd hM1; have HK1 := Hd hK1; clear hM1 hK1)
 gi_loopg [5] (fuel g fs.length) (fun f v wr => ∃ (pre : List (Nat × List Nat)) (q : List (Int × List Nat)), pre ++ bfs g f pre q = told g fs ∧ (mu g pre q ≤ f ∧ f ≤ 1000000) ∧ Blk wr W.heap.size 4 (bools N pre) ∧ Mid wr (W.heap.size + 1) 164 2 v q.length (stepsC (q.map sk)) ∧ J pre wr ∧ Keeps (fun k => D k ∨ k = b1 ∨ k = b2) W wr)
 case atStart =>
  refine ⟨[], fs.map fun c => (c, []), rfl, ⟨by simp [mu, fuel], HM.out⟩, ?_, ?_, ?_, ?_⟩
  ·rw [bools_nil]; exact (HK1.out.block _ (by omega) (by simp)).trans (Blk.new W 4 _)
  ·have := HM1.out
   simpa [sk, ahd, Function.comp_def] using this
  ·exact HJ.out _ _ _ h0 (((Keeps.refl _ W).alloc _).trans (HK1.out.mono fun k hk _ => by omega))
  ·exact ((Keeps.refl _ W).alloc _).trans (HK1.out.mono fun k hk _ => lt_of_D hD hlt1 hlt2 hk)
 case round =>
  obtain ⟨pre, q, hall, ⟨hmu, hf⟩, hT, hMid, hJp, hK⟩ := hrel
  cases q with
  | nil =>
   obtain ⟨_, a, cap, rfl, _, _, _⟩ := hMid
   have hpre : pre = told g fs := by cases gk <;> simpa [bfs] using hall
   rw [hpre] at hJp
   clear hpre hall
   gi_wp2
   go_end0
   exact ⟨⟨_, rfl⟩, .inl hJp⟩
  | cons s q =>
   obtain ⟨p, t⟩ := s
   obtain ⟨f, rfl⟩ : ∃ f, gk = f + 1 := ⟨gk - 1, by unfold mu at hmu; simp at hmu; omega⟩
   obtain ⟨g0, off, cap, rfl, hc1, hc2, hgL, hgs, hcell⟩ := hMid.front (by simp)
   have cp : wr.cell? ⟨g0, off, none⟩ = some (.int .i64 p) := hcell 0 _ rfl
   have ca : wr.cell? ⟨g0, off + 1, none⟩ = some (.int .i64 (ahd t)) := hcell 1 _ rfl
   have hMt := hMid.tail
   obtain ⟨Z, hZ⟩ : ∃ Z, (if cap = 1 then some (⟨g0, off, none⟩ : Addr) else some ⟨g0, off + 2, none⟩) = Z := ⟨_, rfl⟩
   obtain ⟨M, hM⟩ : ∃ M, q.length = M := ⟨_, rfl⟩
   rw [hZ] at hMt
   have hsl : ∀ X, (Instr.sliceAt 161 (.slice (some ⟨g0, off, none⟩) (M + 1) cap) (some (.int .i64 1)) none none).run Tryz.prog X = .ok (.slice Z M (cap - 1)) X := fun X => by
    have hs2 : (sizeOf (Tryz.prog.elem 161)).run Tryz.prog X = .ok 2 X := by kernel_rfl
    have h1 := run_sliceAt_slice (P := Tryz.prog) (w := X) 161 (.slice (some ⟨g0, off, none⟩) (M + 1) cap) (some (.int .i64 1)) none none (by kernel_rfl)
    have h2 := run_slice_l (P := Tryz.prog) (w := X) 161 (some ⟨g0, off, none⟩) (M + 1) cap (by kernel_rfl) .i64 1 (by omega) (by omega)
    rw [h1, h2, hs2]
    simp only [Result.andThen, sliced]
    rw [← hZ]
    congr 2
   rw [List.length_cons, hM] at hc1 ⊢
   obtain ⟨x1, hx1⟩ : ∃ x1, wr.alloc (.cells #[.int .i64 p, .int .i64 (ahd t)] 164) = x1 := ⟨_, rfl⟩
   have hk1 : Keeps (fun k => k < wr.heap.size) wr x1 := by rw [← hx1]; exact (Keeps.refl _ _).alloc _
   have hbs : Blk x1 wr.heap.size 164 #[.int .i64 p, .int .i64 (ahd t)] := by rw [← hx1]; exact Blk.new _ _ _
   have hsz1 : x1.heap.size = wr.heap.size + 1 := by rw [← hx1]; simp
   have hszW : W.heap.size < wr.heap.size := hT.lt
   have hT1 : Blk x1 W.heap.size 4 (bools N pre) := (hk1.block _ hszW hszW).trans hT
   have hK1 : Keeps (fun k => D k ∨ k = b1 ∨ k = b2) W x1 := hK.trans (hk1.mono fun k hk hA => hA)
   have hJ1 : J pre x1 := HJ.out _ _ _ hJp (hk1.mono fun k hk hA => hA)
   have hbx1 : x1.cell? ⟨b1, 0, none⟩ = some (.slice A N c) := hK1.cell (.inr (.inl rfl)) hbox1
   have cs0 : x1.cell? ⟨wr.heap.size, 0, none⟩ = some (.int .i64 p) := by rw [hbs.cell]; rfl
   have cs1 : x1.cell? ⟨wr.heap.size, 1, none⟩ = some (.int .i64 (ahd t)) := by rw [hbs.cell]; rfl
   have hMT1 := hMt.keep (w' := x1) fun k _ hk => hk1.block k hk hk
   have hdrop : (stepsC (List.map sk ((p, t) :: q))).drop 2 = stepsC (q.map sk) := by rw [List.map_cons]; rfl
   rw [hdrop, hM] at hMT1
   have HMT := Hd hMT1
   have HA := Hd hall
   have HMU := Hd hmu
   have HMq := Hd hM
   have HT1 := Hd hT1
   have HJ1 := Hd hJ1
   have HK1 := Hd hK1
   have HBS := Hd hbs
   have hpos : (0 : Int) < (M : Int) + 1 := by omega
   have HP := Hd (isPlace_any A N c p x1)
   have hbB : (decide (0 ≤ p) && decide (p < (N : Int))) = isP g p := by rw [← HN.out]; rfl
   rw [hbB] at HP
   clear hbB hMid hMt hZ hM hcell hall hmu hK hmk hk1 hbs hT hT1 hK1 hJ1 hJp hMT1 hdrop
   by_cases hp : isP g p = true
   ·obtain ⟨y, rfl⟩ : ∃ y : Nat, p = (y : Int) := ⟨p.toNat, by have := isP_iff.1 hp; omega⟩
    have hyN : y < N := by have := isP_iff.1 hp; rw [HN.out] at this; omega
    have HPP := Hd hp
    rw [hp] at HP
    clear hp
    obtain ⟨bt, hbt⟩ : ∃ bt, (pre.map (·.1)).contains y = bt := ⟨_, rfl⟩
    have ct : x1.cell? ⟨W.heap.size, y, none⟩ = some (.bool bt) := by rw [HT1.out.cell, bools_at _ hyN, hbt]
    have cf : x1.frozen? ⟨W.heap.size, y, none⟩ = false := HT1.out.frozen y
    have hyI : (y : Int) < (N : Int) := by omega
    have hy0 : (0 : Int) ≤ (y : Int) := by omega
    have HBT := Hd hbt
    clear hbt
    cases bt with
    | true =>
     have hA2 := HA.out
     rw [bfs_no (.inr HBT.out)] at hA2
     have hmu2 : mu g pre q ≤ f := by have := HMU.out; have := mu_no (g := g) (L := pre) (s := ((y : Int), t)) (q := q); omega
     have HA2 := Hd hA2
     clear hA2
     gi_wp2_with (refine ⟨trivial, ?_⟩; gi_at_call 126; refine (callsIn_wide.2 HP.out).mono ?_; rintro e w2 ⟨rfl, rfl⟩)
     gi_roundg f
     case measure => omega
     case rel => exact ⟨pre, q, HA2.out, ⟨hmu2, by omega⟩, HT1.out, by rw [HMq.out]; exact HMT.out, HJ1.out, HK1.out⟩
    | false =>
     have hA2 := HA.out
     have hct : (pre.map (·.1)).contains ((y : Int).toNat) = false := by rw [Int.toNat_natCast]; exact HBT.out
     rw [bfs_yes HPP.out hct] at hA2
     have hmu2 := mu_yes (g := g) (L := pre) (t := t) (q := q) HPP.out hct
     rw [Int.toNat_natCast] at hA2 hmu2
     have hmu3 : mu g (pre ++ [(y, t)]) (q ++ kids g y t) ≤ f := by have := HMU.out; omega
     have hqlen : q.length + (rowOf g y).length ≤ f := by
      unfold mu at hmu3
      simp only [kids, List.length_append, List.length_map] at hmu3
      have : (rowOf g y).length = (g.getD y []).length := rfl
      omega
     have hpre : pre ++ [(y, t)] <+: told g fs := by rw [← hA2]; exact ⟨bfs g f (pre ++ [(y, t)]) (q ++ kids g y t), by simp⟩
     obtain ⟨x2, hx2⟩ : ∃ x2, x1.setCell ⟨W.heap.size, y, none⟩ (.bool true) = x2 := ⟨_, rfl⟩
     have hk2 : Keeps (fun k => k ≠ W.heap.size) x1 x2 := by rw [← hx2]; exact (Keeps.refl _ _).setCell (by simp) _
     have hT2 : Blk x2 W.heap.size 4 (bools N (pre ++ [(y, t)])) := by rw [← hx2, ← bools_set pre t]; exact HT1.out.stored _ _
     have hJ2 : J pre x2 := HJ.out _ _ _ HJ1.out (hk2.mono fun k hk _ => by omega)
     have hK2 : Keeps (fun k => D k ∨ k = b1 ∨ k = b2) W x2 := HK1.out.trans (hk2.mono fun k hk _ => by have := ne_of_D hD hlt1 hlt2 hk; exact this)
     have hbs2 : Blk x2 wr.heap.size 164 #[.int .i64 y, .int .i64 (ahd t)] := (hk2.block _ (by omega) HBS.out.lt).trans HBS.out
     have hs2 : x1.heap.size ≤ x2.heap.size := hk2.size
     have ds0 : x2.cell? ⟨wr.heap.size, 0, none⟩ = some (.int .i64 y) := by rw [hbs2.cell]; rfl
     have ds1 : x2.cell? ⟨wr.heap.size, 1, none⟩ = some (.int .i64 (ahd t)) := by rw [hbs2.cell]; rfl
     have hMid2 := HMT.out.keep (w' := x2) fun k hk1 hk => hk2.block k (by omega) hk
     obtain ⟨fn, tmps, assign, body, hy, hR⟩ := HY.out pre (y, t) x2 hJ2 hpre
     dsimp only at hy
     have HMid2 := Hd hMid2
     have HT2 := Hd hT2
     have HK2 := Hd hK2
     have HBS2 := Hd hbs2
     have HA2 := Hd hA2
     have HPRE := Hd hpre
     have HQL := Hd hqlen
     have HMU3 := Hd hmu3
     clear hA2 hmu2 hmu3 hpre hk2 hT2 hJ2 hK2 hbs2 hMid2 hct hqlen
     gi_wp2_with (refine ⟨trivial, ?_⟩; gi_at_call 126; refine (callsIn_wide.2 HP.out).mono ?_; rintro e w2 ⟨rfl, rfl⟩)
     refine hR.mono ?_
     rintro e W3 (⟨rfl, hJ3, hk3⟩ | ⟨rfl, hJx3⟩)
     ·have hK3 : Keeps (fun k => D k ∨ k = b1 ∨ k = b2) W W3 := HK2.out.trans (hk3.mono fun k hk _ => .inl hk)
      have hT3 : Blk W3 W.heap.size 4 (bools N (pre ++ [(y, t)])) := (hk3.block _ (.inr (Nat.le_refl _)) HT2.out.lt).trans HT2.out
      have hbs3 : Blk W3 wr.heap.size 164 #[.int .i64 y, .int .i64 (ahd t)] := (hk3.block _ (.inr (by omega)) HBS2.out.lt).trans HBS2.out
      have hMid3 := HMid2.out.keep (w' := W3) fun k hk1 hk => hk3.block k (.inr (by omega)) hk
      have es0 : W3.cell? ⟨wr.heap.size, 0, none⟩ = some (.int .i64 y) := by rw [hbs3.cell]; rfl
      have hbx3 : W3.cell? ⟨b1, 0, none⟩ = some (.slice A N c) := hK3.cell (.inr (.inl rfl)) hbox1
      have hG3 := HG.out W3 (hK3.mono fun k hk _ => .inl hk)
      rw [← HN.out] at hG3
      obtain ⟨ad, c9, hAe, _, _, hbad, hrows⟩ := hG3.rows (by rw [HN.out]; omega)
      injection hAe with hAe _ hAc
      subst hAe hAc
      obtain ⟨A', c', hrc3, hrs3⟩ := hrows y (by rw [HN.out]; exact hyN)
      have hsz3 : W.heap.size + 1 ≤ W3.heap.size := hT3.lt
      have HS := Hd (show ∀ X, X = W3.drew → Calls Tryz.prog 125 #[.slice Z M (cap - 1), .int .i64 (y : Int), .slice A' (rowOf g y).length c'] X fun e w' => ∃ v', e = .returned v' ∧ Mid w' (W.heap.size + 1) 164 2 v' (M + (rowOf g y).length) (stepsC (q.map sk ++ (rowOf g y).map fun p => (p, (y : Int)))) ∧ Keeps (fun k => k < W.heap.size + 1) X w' from fun X hX => by
       subst hX
       have h1 := HQL.out
       have := steps_any W3.drew (W.heap.size + 1) B (.slice Z M (cap - 1)) (.slice A' (rowOf g y).length c') (q.map sk) y (rowOf g y) (by rw [List.length_map, HMq.out]; exact hMid3.keep fun _ _ _ => rfl) (hrs3.keep fun _ _ => rfl) (by omega) hsz3 (by rw [List.length_map]; omega) (by omega)
       rwa [List.length_map, HMq.out] at this)
      have HT3 := Hd hT3
      have HK3 := Hd hK3
      have HJ3 := Hd hJ3
      clear hrows hG3 hrs3 hK3 hT3 hbs3 hMid3 hJ3 hk3 hbad
      gi_wp2
      refine wpIn_wide.2 ?_
      go_still_tail 8, (by kernel_rfl)
      go_wp2_with (go_at_call 125; refine (HS.out _ rfl).mono ?_; rintro e w4 ⟨v4, rfl, hM4, hK4⟩; have HM4 := Hd hM4; have HK4 := Hd hK4; clear hM4 hK4)
      have hk4 : Keeps (fun k => k < W.heap.size + 1) W3 w4 := ((Keeps.refl _ W3).drew).trans HK4.out
      gi_roundg f
      case measure => omega
      case rel =>
       refine ⟨pre ++ [(y, t)], q ++ kids g y t, ?_, ⟨HMU3.out, by omega⟩, ?_, ?_, ?_, ?_⟩
       ·have := HA2.out; simpa using this
       ·exact (hk4.block _ (by omega) HT3.out.lt).trans HT3.out
       ·have h1 := HM4.out
        have e1 : (q ++ kids g y t).length = M + (rowOf g y).length := by
         have := HMq.out
         unfold kids rowOf
         simp only [List.length_append, List.length_map]; omega
        have e2 : (q ++ kids g y t).map sk = q.map sk ++ (rowOf g y).map fun p => (p, (y : Int)) := by
         unfold kids rowOf
         simp [sk, ahd, Function.comp_def]
        rw [e1, e2]; exact h1
       ·exact HJ.out _ _ _ HJ3.out (hk4.mono fun k hk _ => by omega)
       ·exact HK3.out.trans (hk4.mono fun k hk _ => lt_of_D hD hlt1 hlt2 hk)
     ·gi_wp2
      refine bodyPost_ret (results_none rfl _ _ _) rfl ?_
      exact ⟨⟨_, rfl⟩, .inr ⟨_, HPRE.out, hJx3⟩⟩
   ·have hp' : isP g p = false := by simpa using hp
    have hA2 := HA.out
    rw [bfs_no (.inl hp')] at hA2
    have hmu2 : mu g pre q ≤ f := by have := HMU.out; have := mu_no (g := g) (L := pre) (s := (p, t)) (q := q); omega
    have HA2 := Hd hA2
    rw [hp'] at HP
    clear hA2 hp hp'
    gi_wp2_with (refine ⟨trivial, ?_⟩; gi_at_call 126; refine (callsIn_wide.2 HP.out).mono ?_; rintro e w2 ⟨rfl, rfl⟩)
    gi_roundg f
    case measure => omega
    case rel => exact ⟨pre, q, HA2.out, ⟨hmu2, by omega⟩, HT1.out, by rw [HMq.out]; exact HMT.out, HJ1.out, HK1.out⟩
theorem walk_tells (n : Nat) (hn : 1 ≤ n) (b1 b2 B : Nat) (D : Nat → Prop) (A A2 : Option Addr) (c c2 : Nat) (g : List (List Int)) (fs : List Int) (w : World) (hbox1 : w.cell? ⟨b1, 0, none⟩ = some (.slice A g.length c)) (hbox2 : w.cell? ⟨b2, 0, none⟩ = some (.slice A2 fs.length c2))
  (hG : ∀ X, Keeps D w X → Gr X B (.slice A g.length c) g) (hF : SlV w B (.slice A2 fs.length c2) (ints fs)) (hD : ∀ k, D k → k < w.heap.size) (hB : B ≤ w.heap.size) (hs : g.length ≤ 1000) (hm : fuel g fs.length ≤ 1000000) :
  Tells Fence.wide n Tryz.prog 124 #[.pointer (some ⟨b1, 0, none⟩), .pointer (some ⟨b2, 0, none⟩)] (fun x : Nat × List Nat => #[Value.int .i64 (x.1 : Int), Value.int .i64 (ahd x.2)])
   (fun L k => (D k ∨ k = b1 ∨ k = b2) ∨ L ≤ k) (fun L k => k < L) (told g fs) w := by
 intro l J Jx W hW hJ hY h0
 have hlt1 := World.block_lt_of_cell? w _ hbox1
 have hlt2 := World.block_lt_of_cell? w _ hbox2
 have hk : Keeps D w W := Keeps.of_below hW fun k hk _ => hD k hk
 exact walk1_in n hn l b1 b2 B D A A2 c c2 g fs J Jx W ((hW.cell (p := ⟨b1, 0, none⟩) hlt1).trans hbox1) ((hW.cell (p := ⟨b2, 0, none⟩) hlt2).trans hbox2) (fun X hX => hG X (hk.trans hX)) (hF.below (hW.mono hB)) (fun k h => Nat.lt_of_lt_of_le (hD k h) hW.size) (Nat.le_trans hB hW.size) hs hm hJ hY h0
theorem bools_told (g : List (List Int)) (fs : List Int) : (bools g.length (told g fs)).toList = reachV g fs := rfl
theorem told_lt {g : List (List Int)} {fs : List Int} {s : Nat × List Nat} (h : s ∈ told g fs) : s.1 < g.length := ((told_inv g fs).walk s h).1.head
set_option maxRecDepth 100000 in
set_option maxHeartbeats 4000000 in
theorem reach_any (A A2 : Option Addr) (c c2 B : Nat) (g : List (List Int)) (fs : List Int) (w : World) (hG : Gr w B (.slice A g.length c) g) (hF : SlV w B (.slice A2 fs.length c2) (ints fs)) (hB : B ≤ w.heap.size) (hs : g.length ≤ 1000) (hm : fuel g fs.length ≤ 1000000) :
  Calls Tryz.prog 43 #[.slice A g.length c, .slice A2 fs.length c2] w fun e w' => ∃ A', e = .returned (.slice A' g.length g.length) ∧ SlV w' w'.heap.size (.slice A' g.length g.length) (reachV g fs) ∧ Below w.heap.size w w' ∧ ∀ ad, A' = some ad → w.heap.size ≤ ad.block := by
 obtain ⟨N, hN⟩ : ∃ N, g.length = N := ⟨_, rfl⟩
 obtain ⟨M, hM⟩ : ∃ M, fs.length = M := ⟨_, rfl⟩
 have HN := Hd hN
 have HM := Hd hM
 have HG := Hd hG
 have HF := Hd hF
 have HMU := Hd hm
 have HBT := Hd (bools_told g fs)
 rw [hN] at HBT
 rw [hM] at HF HMU
 have hmk := make_bools N (hN ▸ hs)
 rw [hN] at hs ⊢
 rw [hM]
 clear hN hM hG hF hm
 refine (callsIn_wide (n := 4)).1 ?_
 refine callsIn_of_wp_marks Tryz.func43 rfl trivial ?_ rfl
 simp only [Tryz.ntmps43, List.size_toArray, List.length_cons, List.length_nil, Nat.reduceAdd, Nat.reduceSub, Array.replicate_succ, Array.replicate_zero, List.push_toArray, List.append_toArray, List.nil_append, List.cons_append]
 gi_wp2_with (refine ⟨trivial, ?_⟩; gi_at_call 82; refine (callsIn_wide.2 (walk_any _ _ _ _ _ _ _)).mono ?_; rintro e w2 ⟨rfl, rfl⟩)
 obtain ⟨W1, hW1⟩ : ∃ W1, (w.alloc (.cells (Array.replicate N (.bool false)) 4)).alloc (.cells #[.slice (some ⟨w.heap.size, 0, none⟩) N N] 38) = W1 := ⟨_, rfl⟩
 have hsz1 : W1.heap.size = w.heap.size + 2 := by rw [← hW1]; simp
 obtain ⟨W2, hW2⟩ : ∃ W2, W1.alloc (.cells #[.slice A N c] 41) = W2 := ⟨_, rfl⟩
 have hsz2 : W2.heap.size = w.heap.size + 3 := by rw [← hW2]; simp [hsz1]
 obtain ⟨W0, hW0⟩ : ∃ W0, W2.alloc (.cells #[.slice A2 M c2] 44) = W0 := ⟨_, rfl⟩
 have hsz0 : W0.heap.size = w.heap.size + 4 := by rw [← hW0]; simp [hsz2]
 have hrb1 : Blk W1 w.heap.size 4 (Array.replicate N (.bool false)) := by rw [← hW1]; exact (Blk.new w _ _).alloc _
 have hvb1 : Blk W1 (w.heap.size + 1) 38 #[.slice (some ⟨w.heap.size, 0, none⟩) N N] := by
  rw [← hW1]; have := Blk.new (w.alloc (.cells (Array.replicate N (.bool false)) 4)) 38 #[.slice (some ⟨w.heap.size, 0, none⟩) N N]; rwa [World.size_alloc] at this
 have hrb0 : Blk W0 w.heap.size 4 (Array.replicate N (.bool false)) := by rw [← hW0, ← hW2]; exact (hrb1.alloc _).alloc _
 have hvb0 : Blk W0 (w.heap.size + 1) 38 #[.slice (some ⟨w.heap.size, 0, none⟩) N N] := by rw [← hW0, ← hW2]; exact (hvb1.alloc _).alloc _
 have hbx1 : W0.cell? ⟨w.heap.size + 2, 0, none⟩ = some (.slice A N c) := by
  rw [← hW0, ← hW2]; have := ((Blk.new W1 41 #[.slice A N c]).alloc (.cells #[.slice A2 M c2] 44)).cell 0; rw [hsz1] at this; simpa using this
 have hbx2 : W0.cell? ⟨w.heap.size + 3, 0, none⟩ = some (.slice A2 M c2) := by
  rw [← hW0]; have := (Blk.new W2 44 #[.slice A2 M c2]).cell 0; rw [hsz2] at this; simpa using this
 have hb0 : Below w.heap.size w W0 := by rw [← hW0, ← hW2, ← hW1]; exact ((((Below.refl _ w).alloc (Nat.le_refl _) _).alloc (by simp) _).alloc (by simp; omega) _).alloc (by simp; omega) _
 have HT2 := Hd (show Tells Fence.wide 3 Tryz.prog 124 #[.pointer (some ⟨w.heap.size + 2, 0, none⟩), .pointer (some ⟨w.heap.size + 3, 0, none⟩)] (fun x : Nat × List Nat => #[Value.int .i64 (x.1 : Int), Value.int .i64 (ahd x.2)])
   (fun L k => (k < B ∨ k = w.heap.size + 2 ∨ k = w.heap.size + 3) ∨ L ≤ k) (fun L k => k < L) (told g fs) W0 from
  walk_tells 3 (by decide) (w.heap.size + 2) (w.heap.size + 3) B (fun k => k < B) A A2 c c2 g fs W0 (by rw [HN.out]; exact hbx1) (by rw [HM.out]; exact hbx2)
   (fun X hX => by rw [HN.out]; rw [HN.out] at HG; exact HG.out.below ((hb0.mono hB).trans (hX.below (by omega) fun _ h => h))) (by rw [HM.out]; exact HF.out.below (hb0.mono hB)) (fun k hk => by omega) (by omega) (by rw [HN.out]; exact hs) (by rw [HM.out]; exact HMU.out))
 rw [hW1, hW2, hW0]
 clear hW0 hW1 hW2 hmk hbx1 hbx2 hrb1 hvb1
 refine wpIn_range rfl (by decide) (gf := 124) (lb := #[.pointer (some ⟨w.heap.size + 2, 0, none⟩), .pointer (some ⟨w.heap.size + 3, 0, none⟩)]) rfl trivial (enters_of Tryz.func124 (by kernel_rfl) rfl) HT2.out (Below.refl _ _) (fun _ => rfl)
  (fun k => k < W0.heap.size) (fun k h h' => by unfold Two at h; omega) (fun k h => by omega) (fun k h => by unfold Two at h; omega) (by omega)
  (fun pre W => (W.cell? ⟨w.heap.size + 1, 0, none⟩ = some (.slice (some ⟨w.heap.size, 0, none⟩) N N) ∧ Blk W w.heap.size 4 (bools N pre)) ∧ Below w.heap.size w W ∧ W0.heap.size ≤ W.heap.size)
  (fun _ _ _ => False)
  (fun pre X Y ⟨⟨h1, h2⟩, h3, h4⟩ hk => ⟨⟨hk.cell (by show w.heap.size + 1 < W0.heap.size; omega) h1, (hk.block _ (by omega) h2.lt).trans h2⟩, h3.trans (hk.below (by omega) (fun k hk1 => by omega)), Nat.le_trans h4 hk.size⟩)
  (fun _ _ _ _ h _ _ => h)
  ⟨⟨by rw [hvb0.cell]; rfl, by rw [bools_nil]; exact hrb0⟩, hb0, Nat.le_refl _⟩
  (fun x => { tmps := #[.slice A N c, .slice A2 M c2, undef, undef, .slice none 0 0, .pointer (some ⟨w.heap.size + 1, 0, none⟩), .int .i64 (x.1 : Int), .slice A N c, .int .i64 (N : Int), .slice (some ⟨w.heap.size, 0, none⟩) N N, .slice A N c, .slice A2 M c2, .func (.func 124) #[] #[.pointer (some ⟨w.heap.size + 2, 0, none⟩), .pointer (some ⟨w.heap.size + 3, 0, none⟩)], .int .i64 (x.1 : Int), .int .i64 (ahd x.2), undef, undef, undef, undef], defers := [] }) ?assign ?body ?done ?stop
 case assign =>
  intro l x W K hK
  gi_wp2
  exact hK
 case body =>
  rintro l pre ⟨a, t⟩ W ⟨⟨hvb, hrb⟩, hbel, hsz⟩ hpre hsz2
  have hxm : a < N := by
   have := told_lt (hpre.subset (List.mem_append.2 (.inr (List.mem_singleton.2 rfl))))
   rw [HN.out] at this; exact this
  have hxI : (a : Int) < (N : Int) := by omega
  have hcl : W.cell? ⟨w.heap.size, a, none⟩ = some (.bool ((pre.map (·.1)).contains a)) := by rw [hrb.cell, bools_at _ hxm]
  have hfr : W.frozen? ⟨w.heap.size, a, none⟩ = false := hrb.frozen a
  have HRB := Hd hrb
  have HB2 := Hd hbel
  clear hrb hbel hpre
  gi_wp2
  refine ⟨(Keeps.refl _ W).setCell (by unfold Two; simp; omega) _, ⟨?_, ?_⟩, HB2.out.setCell (p := ⟨w.heap.size, a, none⟩) (Nat.le_refl _) _, ?_⟩
  ·rw [World.cell?_setCell_other _ _ _ _ (by simp)]; exact hvb
  ·rw [← bools_set pre t]; exact HRB.out.stored _ _
  ·simpa [World.setCell] using hsz
 case done =>
  rintro W ⟨⟨hvb, hrb⟩, hbel, hsz⟩ hD
  have HRB := Hd hrb
  have HB2 := Hd hbel
  clear hrb hbel
  gi_wp2
  refine ⟨by simp, .inl ⟨_, _, rfl, run_takeDeferred hD, ?_⟩⟩
  refine ⟨_, results_tmp rfl _ _ _, _, rfl, ?_, ?_, fun ad e => by cases e; exact Nat.le_refl _⟩
  ·have h1 : Blk (W.putObj W0.heap.size (.deferred none)) w.heap.size 4 (bools N (told g fs)) := (World.putObj_heap_other (by omega)).trans HRB.out
   rw [← HBT.out]
   have hl : (bools N (told g fs)).toList.length = N := by simp [bools]
   have h2 : SlV (W.putObj W0.heap.size (.deferred none)) (W.putObj W0.heap.size (.deferred none)).heap.size (.slice (some ⟨w.heap.size, 0, none⟩) (bools N (told g fs)).toList.length N) (bools N (told g fs)).toList :=
    .at_ _ _ _ (by omega) (by unfold maxLen; omega) fun j u hu => ⟨h1.lt, by rw [add_plain, Nat.zero_add, h1.cell, ← Array.getElem?_toList]; exact hu⟩
   rwa [hl] at h2
  ·exact HB2.out.trans ⟨rfl, rfl, rfl, by simp, fun k hk => World.putObj_heap_other (by omega)⟩
 case stop =>
  rintro ch pre W _ h _
  exact h.elim
end Go.Proofs.YtdaimeaofgbfpaaGreat.By
