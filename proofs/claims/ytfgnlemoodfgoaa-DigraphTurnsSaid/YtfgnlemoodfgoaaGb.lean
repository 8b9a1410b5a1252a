/-
  WHAT edges TELLS: each edge that leads to a place.
-/
import Derived.Test.YtfgnlemoodfgoaaGa
import Derived.Shelf.Abstract
import Derived.OwnWalkIn
import Derived.TacticsInMore
import Derived.LoopNIn
import Derived.LoopIn
namespace Go.Proofs.Ytfgnlemoodfgoaa.By
open Go.RowKit
open Mem Gm Rf
attribute [local go_sem] Oper.semAt_some

def rowE (g : List (List Int)) (a : Nat) (l : List Int) : List (Nat × Nat) := (l.filter (isP g)).map fun c => (a, c.toNat)
def edgesTo (g : List (List Int)) (k j : Nat) : List (Nat × Nat) := ((List.range k).flatMap fun a => rowE g a (rowOf g a)) ++ rowE g k ((rowOf g k).take j)
def edgesL (g : List (List Int)) : List (Nat × Nat) := (List.range g.length).flatMap fun a => rowE g a (rowOf g a)

theorem edgesTo_zero (g : List (List Int)) (k : Nat) : edgesTo g k 0 = (List.range k).flatMap fun a => rowE g a (rowOf g a) := by simp [edgesTo, rowE]
theorem edgesTo_next (g : List (List Int)) (k : Nat) : edgesTo g k (rowOf g k).length = edgesTo g (k + 1) 0 := by
  rw [edgesTo_zero, List.range_succ, List.flatMap_append, edgesTo, List.take_length]; simp
theorem edgesTo_more (g : List (List Int)) (k j : Nat) (h : j < (rowOf g k).length) :
    edgesTo g k (j + 1) = edgesTo g k j ++ (if isP g (el (rowOf g k) j) then [(k, (el (rowOf g k) j).toNat)] else []) := by
  unfold edgesTo rowE
  rw [List.take_succ_eq_append_getElem h, List.filter_append, List.map_append, List.append_assoc]
  rw [el_at h]
  by_cases hp : isP g (el (rowOf g k) j) = true
  · simp [hp]
  · simp [hp]
theorem edgesTo_all (g : List (List Int)) : edgesTo g g.length 0 = edgesL g := edgesTo_zero _ _
theorem edgesTo_up (g : List (List Int)) (k : Nat) : edgesTo g k 0 <+: edgesTo g (k + 1) 0 := by
  rw [edgesTo_zero, edgesTo_zero, List.range_succ, List.flatMap_append]; exact List.prefix_append _ _
theorem edgesTo_pre (g : List (List Int)) : ∀ d k, k + d = g.length → edgesTo g k 0 <+: edgesL g
  | 0, k, h => by rw [← edgesTo_all, show k = g.length by omega]; exact List.prefix_refl _
  | d + 1, k, h => (edgesTo_up g k).trans (edgesTo_pre g d (k + 1) (by omega))
theorem edgesTo_in (g : List (List Int)) {k j : Nat} (hk : k < g.length) : edgesTo g k j <+: edgesL g := by
  refine List.IsPrefix.trans ?_ (edgesTo_pre g (g.length - (k + 1)) (k + 1) (by omega))
  rw [← edgesTo_next]
  unfold edgesTo rowE
  refine (List.prefix_append_right_inj _).2 ?_
  rw [List.take_length]
  exact ((List.take_prefix j _).filter _).map _
theorem isP_bool (g : List (List Int)) (p : Int) : (decide (0 ≤ p) && decide (p < (g.length : Int))) = isP g p := rfl

set_option maxRecDepth 100000 in
set_option maxHeartbeats 2000000 in
theorem edges1_in (n : Nat) (hn : 1 ≤ n) (l Bg B : Nat) (A : Option Addr) (c : Nat) (g : List (List Int)) (J Jx : List (Nat × Nat) → World → Prop) (U : Nat → Prop) (hUg : U Bg) (hUB : ∀ k, k < B → U k)
    (hY : ∀ pre x W1, J pre W1 → pre ++ [x] <+: edgesL g → YieldAt Fence.wide (n - 1) Try.prog l #[.int .i64 (x.1 : Int), .int .i64 (x.2 : Int)] W1 fun e W' =>
      (e = .returned (.bool true) ∧ J (pre ++ [x]) W' ∧ Keeps U W1 W') ∨ (e = .returned (.bool false) ∧ Jx (pre ++ [x]) W'))
    (W : World) (hBg : W.cell? ⟨Bg, 0, none⟩ = some (.slice A g.length c)) (hG : Gr W B (.slice A g.length c) g) (h0 : J [] W) :
    CallsIn Fence.wide n Try.prog 24 #[.func (.yield l) #[] #[], .pointer (some ⟨Bg, 0, none⟩)] W fun e W' => (∃ v, e = .returned v) ∧
      (J (edgesL g) W' ∨ ∃ pre, pre <+: edgesL g ∧ Jx pre W') := by
  obtain ⟨N, hN⟩ : ∃ N, g.length = N := ⟨_, rfl⟩
  have HN := Lib.hid hN
  have hall := edgesTo_all g
  rw [hN] at hall hBg hG
  clear hN
  have hstart : edgesTo g 0 0 = [] := by simp [edgesTo, rowE, rowOf]
  have h0' : J (edgesTo g 0 0) W := by rw [hstart]; exact h0
  clear hstart h0
  have hrows : ∀ i, i < N → ∃ ad A' c', A = some ad ∧ (ad.add i).block < B ∧ W.cell? (ad.add i) = some (.slice A' (rowOf g i).length c') ∧ SlV W B (.slice A' (rowOf g i).length c') (ints (rowOf g i)) := fun i hi => by
    rw [← HN.out] at hG hi
    obtain ⟨ad, c2, e, _, _, hb, hr⟩ := hG.rows (by omega)
    injection e with e1
    obtain ⟨A', c', h1, h2⟩ := hr i hi
    exact ⟨ad, A', c', e1, by rw [add_block]; exact hb, h1, h2⟩
  have hmax : N ≤ 9223372036854775807 := by
    obtain ⟨rs, h1, h2, _⟩ := hG
    rcases h1.inv with ⟨_, h, _⟩ | ⟨_, _, _, h3, h4, _⟩
    · omega
    · unfold maxLen at h4; omega
  have hUB' := Lib.hid hUB
  have HR := Lib.hid hrows
  have HY := Lib.hid hY
  have HA := Lib.hid hall
  clear hrows hY hUB hG hall
  refine callsIn_of_wp Try.func24 rfl trivial ?_ rfl
  simp only [Try.ntmps24, List.size_toArray, List.length_cons, List.length_nil, Nat.reduceAdd, Nat.reduceSub, Array.replicate_succ, Array.replicate_zero, List.push_toArray, List.append_toArray, List.nil_append, List.cons_append]
  gi_wp2
  gi_loopw [9] (fun i wr => ∃ k : Nat, k ≤ N ∧ i = .int .i64 k ∧ J (edgesTo g k 0) wr ∧ Keeps U W wr) (fun i _ => N - (intOf i).toNat)
  case atStart => exact ⟨0, Nat.zero_le _, rfl, h0', Keeps.refl _ _⟩
  case round =>
    obtain ⟨k, hk, rfl, hJ, hK⟩ := hrel
    by_cases hlt : k < N
    · obtain ⟨ad, A', c', hA, hblk, hcell0, hsl0⟩ := HR.out k hlt
      subst hA
      have hcell := hK.cell (hUB'.out _ hblk) hcell0
      have hbox : wr.cell? ⟨Bg, 0, none⟩ = some (.slice (some ad) N c) := hK.cell hUg hBg
      obtain ⟨M, hM⟩ : ∃ M, (rowOf g k).length = M := ⟨_, rfl⟩
      have hmM : M ≤ 9223372036854775807 := by
        rcases hsl0.inv with ⟨_, h, _⟩ | ⟨_, _, _, h3, h4, _⟩
        · omega
        · unfold maxLen at h4; omega
      have hsl1 := ints_row hsl0
      rw [hM] at hcell hsl1
      have HM := Lib.hid hM
      have HS := Lib.hid hsl1
      have HG : Hid (k < g.length) := by have := HN.out; show k < g.length; omega
      have hnx := Lib.hid (edgesTo_next g k)
      clear hcell0 hsl0 hsl1 hM
      gi_wp2
      obtain ⟨wo, hwo⟩ : ∃ wo, wo = wr := ⟨_, rfl⟩
      subst hwo
      gi_loopw [16] (fun i wr => ∃ j : Nat, j ≤ M ∧ i = .int .i64 j ∧ J (edgesTo g k j) wr ∧ Keeps U W wr) (fun i _ => M - (intOf i).toNat)
      case atStart => exact ⟨0, Nat.zero_le _, rfl, hJ, hK⟩
      case round =>
        obtain ⟨j, hj, rfl, hJ2, hK2⟩ := hrel
        by_cases hjl : j < M
        · have hsl2 := HS.out
          have hne : (rowOf g k) ≠ [] := fun e => by have := HM.out; rw [e] at this; simp at this; omega
          rcases hsl2 with ⟨e, _⟩ | ⟨ad2, e, hb2, hc2⟩
          · exact absurd e hne
          have hel0 := hc2 j hjl
          subst e
          have hel := hK2.cell (hUB'.out _ (by rw [add_block]; exact hb2)) hel0
          have hbox2 : wr.cell? ⟨Bg, 0, none⟩ = some (.slice (some ad) N c) := hK2.cell hUg hBg
          clear hel0 hc2 hne
          have HE := Lib.hid (edgesTo_more g k j (by rw [HM.out]; exact hjl))
          obtain ⟨x, hx⟩ : ∃ x, el (rowOf g k) j = x := ⟨_, rfl⟩
          rw [hx] at hel HE
          clear hx
          have HP := Lib.hid (isPlace_any (some ad) N c x wr)
          have hbB : (decide (0 ≤ x) && decide (x < (N : Int))) = isP g x := by rw [← HN.out]; rfl
          rw [hbB] at HP
          clear hbB
          by_cases hp : isP g x = true
          · obtain ⟨y, rfl⟩ : ∃ y : Nat, x = (y : Int) := ⟨x.toNat, by have := isP_iff.1 hp; omega⟩
            rw [if_pos hp] at HE
            rw [hp] at HP
            clear hp
            have hpre : edgesTo g k j ++ [(k, y)] <+: edgesL g := by
              have h1 := HE.out
              rw [Int.toNat_natCast] at h1
              rw [← h1]; exact edgesTo_in g HG.out
            obtain ⟨fn, tmps, assign, body, hy, hR⟩ := HY.out _ (k, y) wr hJ2 hpre
            dsimp only at hy
            gi_wp2_with (refine ⟨trivial, ?_⟩; gi_at_call 25; refine (callsIn_wide.2 HP.out).mono ?_; rintro e w2 ⟨rfl, rfl⟩)
            refine hR.mono ?_
            rw [Int.toNat_natCast] at HE
            rintro e W3 (⟨rfl, hJ3, hk3⟩ | ⟨rfl, hJx3⟩)
            · gi_wp2
              go_roundw
              case rel => exact ⟨j + 1, by omega, by go_num, by rw [HE.out]; exact hJ3, hK2.trans hk3⟩
              case measure => simp [intOf]; omega
            · gi_wp2
              refine bodyPost_ret (results_none rfl _ _ _) rfl ?_
              exact ⟨⟨_, rfl⟩, .inr ⟨_, hpre, hJx3⟩⟩
          · have hp' : isP g x = false := by simpa using hp
            rw [if_neg hp, List.append_nil] at HE
            rw [hp'] at HP
            clear hp hp'
            gi_wp2_with (refine ⟨trivial, ?_⟩; gi_at_call 25; refine (callsIn_wide.2 HP.out).mono ?_; rintro e w2 ⟨rfl, rfl⟩)
            refine ⟨fun _ h => (by cases h), ?_⟩
            gi_wp2
            go_roundw
            case rel => exact ⟨j + 1, by omega, by go_num, by rw [HE.out]; exact hJ2, hK2⟩
            case measure => simp [intOf]; omega
        · obtain rfl : j = M := by omega
          have hJ3 : J (edgesTo g (k + 1) 0) wr := by
            have := hnx.out
            rw [HM.out] at this
            rw [← this]; exact hJ2
          gi_wp2
          go_roundw
          case rel => exact ⟨k + 1, by omega, by go_num, hJ3, hK2⟩
          case measure => simp [intOf]; omega
    · obtain rfl : k = N := by omega
      rw [HA.out] at hJ
      gi_wp2
      go_end0
      exact ⟨⟨_, rfl⟩, .inl hJ⟩

/-- What edges hands back tells the edges: it turns nothing; a round keeps the graph and the box. -/
theorem edges_tells (n : Nat) (hn : 1 ≤ n) (Bg B : Nat) (A : Option Addr) (c : Nat) (g : List (List Int)) (w : World) (hBg : w.cell? ⟨Bg, 0, none⟩ = some (.slice A g.length c)) (hG : Gr w B (.slice A g.length c) g) (hB : B ≤ w.heap.size) :
    Tells Fence.wide n Try.prog 24 #[.pointer (some ⟨Bg, 0, none⟩)] (fun x : Nat × Nat => #[Value.int .i64 (x.1 : Int), Value.int .i64 (x.2 : Int)]) (fun _ k => k < B ∨ k = Bg) (fun _ _ => True) (edgesL g) w := by
  intro l J Jx W hW _ hY h0
  have hlt := World.block_lt_of_cell? w _ hBg
  exact edges1_in n hn l Bg B A c g J Jx (fun k => k < B ∨ k = Bg) (.inr rfl) (fun k hk => .inl hk) hY W ((hW.cell (p := ⟨Bg, 0, none⟩) hlt).trans hBg) (hG.below (hW.mono hB)) h0
end Go.Proofs.Ytfgnlemoodfgoaa.By
