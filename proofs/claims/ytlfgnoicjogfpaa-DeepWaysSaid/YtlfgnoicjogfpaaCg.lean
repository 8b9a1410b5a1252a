/-
  WALK of layer 11: what asked tells: the ends that wait, each with its key; the rounds may turn the queue.
-/
import Derived.Test.YtlfgnoicjogfpaaCe
import Derived.Test.YtlfgnoicjogfpaaZd
import Derived.Test.YtlfgnoicjogfpaaQd
import Derived.Test.YtlfgnoicjogfpaaGb
namespace Go.Proofs.Ytlfgnoicjogfpaa.By
open Go.RowKit
open Mem Gm Rf Hp Qu
attribute [local go_sem] Oper.semAt_some

/-- The ends that have an answer, each with it. -/
def toldK (kf : Nat → Option Int) (l : List Nat) : List (Nat × Int) := l.filterMap fun e => (kf e).map fun k => (e, k)
theorem toldK_next {kf : Nat → Option Int} {l : List Nat} {j : Nat} {e : Nat} (h : l[j]? = some e) : toldK kf (l.take (j + 1)) = toldK kf (l.take j) ++ (match kf e with | some k => [(e, k)] | none => []) := by
  obtain ⟨h1, h2⟩ := List.getElem?_eq_some_iff.1 h
  rw [List.take_succ_eq_append_getElem h1, h2, toldK, List.filterMap_append]
  congr 1
  cases h3 : kf e <;> simp [h3]
theorem toldK_pre (kf : Nat → Option Int) (l : List Nat) (j : Nat) : toldK kf (l.take j) <+: toldK kf l := by
  refine ⟨toldK kf (l.drop j), ?_⟩
  unfold toldK
  rw [← List.filterMap_append, List.take_append_drop]
theorem toldK_mem {kf : Nat → Option Int} {l : List Nat} {x : Nat × Int} (h : x ∈ toldK kf l) : x.1 ∈ l ∧ kf x.1 = some x.2 := by
  obtain ⟨e, he, h2⟩ := List.mem_filterMap.1 h
  cases hk : kf e with
  | none => rw [hk] at h2; cases h2
  | some k => rw [hk] at h2; simp at h2; subst h2; exact ⟨he, hk⟩

/-- What the caller holds: of the ends that were not told the queue has the keys. -/
def Holds2 (q : Nat) (kf : Nat → Option Int) (l : List Nat) (pre : List (Nat × Int)) (W : World) : Prop :=
  ∃ U n S, Qs W q U n S ∧ ∀ e ∈ l, e ∉ pre.map (·.1) → (e : Int) ≤ 1000000 ∧ (match kf e with | some k => S ((e : Int), k) | none => ∀ y, S y → y.1 ≠ (e : Int))

set_option maxRecDepth 100000 in
set_option maxHeartbeats 4000000 in
theorem asked1_in (n : Nat) (hn : 1 ≤ n) (l0 b1 b2 q B N c : Nat) (A : Option Addr) (kf : Nat → Option Int) (l : List Nat) (J Jx : List (Nat × Int) → World → Prop) (U : Nat → Prop) (_h1 : U b1) (h2 : U b2) (hUB : ∀ k, k < B → U k) (hnd : l.Nodup) (hN : l.length = N)
    (hJG : ∀ s A, J s A → Holds2 q kf l s A)
    (hY : ∀ pre x W1, J pre W1 → pre ++ [x] <+: toldK kf l → YieldAt Fence.wide (n - 1) Try.prog l0 #[.int .i64 (x.1 : Int), .int .i64 x.2] W1 fun e W' =>
      (e = .returned (.bool true) ∧ J (pre ++ [x]) W' ∧ Keeps U W1 W') ∨ (e = .returned (.bool false) ∧ Jx (pre ++ [x]) W'))
    (W : World) (hb1 : W.cell? ⟨b1, 0, none⟩ = some (.slice A N c)) (hb2 : W.cell? ⟨b2, 0, none⟩ = some (.func (.func 104) #[.pointer (some ⟨q, 0, none⟩)] #[])) (hL : SlV W B (.slice A N c) (nats l)) (h0 : J [] W) :
    CallsIn Fence.wide n Try.prog 139 #[.func (.yield l0) #[] #[], .pointer (some ⟨b1, 0, none⟩), .pointer (some ⟨b2, 0, none⟩)] W fun e W' => (∃ v, e = .returned v) ∧
      (J (toldK kf l) W' ∨ ∃ pre, pre <+: toldK kf l ∧ Jx pre W') := by
  have hC := fun j (hj : j < N) => (show ∃ ad, A = some ad ∧ (ad.add j).block < B ∧ W.cell? (ad.add j) = some (.int .i64 ((l.getD j 0 : Nat) : Int)) from by
    rcases hL.inv with ⟨_, h, _⟩ | ⟨ad, e, _, _, _, hr⟩
    · omega
    · have hjl : j < l.length := by omega
      have := hr j (.int .i64 ((l.getD j 0 : Nat) : Int)) (by simp [nats, hjl])
      exact ⟨ad, e, by rw [add_block]; exact this.1, this.2⟩)
  have hmax : N ≤ 9223372036854775807 := by
    rcases hL.inv with ⟨_, h, _⟩ | ⟨_, _, _, h3, h4, _⟩
    · omega
    · unfold maxLen at h4; omega
  have HC := Lib.hid hC
  have HUB := Lib.hid hUB
  have HY := Lib.hid hY
  have HJG := Lib.hid hJG
  have HND := Lib.hid hnd
  have HN := Lib.hid hN
  clear hC hUB hY hJG hnd hN hL
  refine callsIn_of_wp Try.func139 rfl trivial ?_ rfl
  simp only [Try.ntmps139, List.size_toArray, List.length_cons, List.length_nil, Nat.reduceAdd, Nat.reduceSub, Array.replicate_succ, Array.replicate_zero, List.push_toArray, List.append_toArray, List.nil_append, List.cons_append]
  gi_wp2
  gi_loopw [10] (fun i wr => ∃ j : Nat, j ≤ N ∧ i = .int .i64 j ∧ J (toldK kf (l.take j)) wr ∧ Keeps U W wr) (fun i _ => N - (intOf i).toNat)
  case atStart => exact ⟨0, Nat.zero_le _, rfl, h0, Keeps.refl _ _⟩
  case round =>
    obtain ⟨j, hj, rfl, hJ, hK⟩ := hrel
    by_cases hlt : j < N
    · obtain ⟨ad, rfl, hblk, hcell0⟩ := HC.out j hlt
      have hcell := hK.cell (HUB.out _ hblk) hcell0
      have hbox2 := hK.cell h2 hb2
      have hjl : j < l.length := by rw [HN.out]; exact hlt
      obtain ⟨e, he⟩ : ∃ e, l.getD j 0 = e := ⟨_, rfl⟩
      have hge : l[j]? = some e := by rw [← he]; simp [hjl]
      rw [he] at hcell
      have HE := Lib.hid (toldK_next (kf := kf) hge)
      have hnot : e ∉ (toldK kf (l.take j)).map (·.1) := fun hm => by
        obtain ⟨x, hx, hxe⟩ := List.mem_map.1 hm
        have hxl := (toldK_mem hx).1
        rw [hxe] at hxl
        obtain ⟨i, hi, hi2⟩ := List.getElem_of_mem hxl
        rw [List.length_take] at hi
        rw [List.getElem_take] at hi2
        have hel : l[j] = e := (List.getElem?_eq_some_iff.1 hge).2
        have := (List.pairwise_iff_getElem.1 HND.out) i j (by omega) hjl (by omega)
        rw [hi2, hel] at this
        exact this rfl
      have hJG := HJG.out _ _ hJ
      obtain ⟨Uq, nq, Sq, hQ, hkeys⟩ := hJG
      obtain ⟨hsmall, hkey⟩ := hkeys e (List.mem_of_getElem? hge) hnot
      clear hcell0 he hnot hkeys hblk
      cases hkf : kf e with
      | none =>
        rw [hkf] at hkey HE
        have HKY := Lib.hid (key_no wr q Uq nq Sq hQ (e : Int) (show In64 (e : Int) from ⟨by omega, by omega⟩) hkey)
        clear hQ hkey hkf
        gi_wp2_with (refine ⟨trivial, ?_⟩; gi_at_call 104; refine (callsIn_wide.2 HKY.out).mono ?_; rintro e w2 ⟨rfl, rfl⟩)
        refine ⟨fun _ h => (by cases h), ?_⟩
        gi_wp2
        go_roundw
        case rel => exact ⟨j + 1, by omega, by go_num, by rw [HE.out, List.append_nil]; exact hJ, hK⟩
        case measure => simp [intOf]; omega
      | some k =>
        rw [hkf] at hkey HE
        have HKY := Lib.hid (key_yes wr q Uq nq Sq hQ ((e : Int), k) hkey)
        have hpre : toldK kf (l.take j) ++ [(e, k)] <+: toldK kf l := by
          have := HE.out
          simp only at this
          rw [← this]; exact toldK_pre kf l (j + 1)
        obtain ⟨fn, tmps, assign, body, hy, hR⟩ := HY.out _ (e, k) wr hJ hpre
        dsimp only at hy
        clear hQ hkey hkf
        gi_wp2_with (refine ⟨trivial, ?_⟩; gi_at_call 104; refine (callsIn_wide.2 HKY.out).mono ?_; rintro e w2 ⟨rfl, rfl⟩)
        refine hR.mono ?_
        rintro e W3 (⟨rfl, hJ3, hk3⟩ | ⟨rfl, hJx3⟩)
        · gi_wp2
          go_roundw
          case rel => exact ⟨j + 1, by omega, by go_num, by rw [HE.out]; exact hJ3, hK.trans hk3⟩
          case measure => simp [intOf]; omega
        · gi_wp2
          refine bodyPost_ret (results_none rfl _ _ _) rfl ?_
          exact ⟨⟨_, rfl⟩, .inr ⟨_, hpre, hJx3⟩⟩
    · obtain rfl : j = N := by omega
      rw [List.take_of_length_le (by rw [HN.out]; exact Nat.le_refl _)] at hJ
      gi_wp2
      go_end0
      exact ⟨⟨_, rfl⟩, .inl hJ⟩

/-- What asked hands back tells the ends that wait. -/
theorem asked_tells (n : Nat) (hn : 1 ≤ n) (lo b1 b2 q B N c : Nat) (A : Option Addr) (kf : Nat → Option Int) (l : List Nat) (hnd : l.Nodup) (hN : l.length = N) (w : World) (hb1 : w.cell? ⟨b1, 0, none⟩ = some (.slice A N c)) (hb2 : w.cell? ⟨b2, 0, none⟩ = some (.func (.func 104) #[.pointer (some ⟨q, 0, none⟩)] #[]))
    (hL : SlV w B (.slice A N c) (nats l)) (hB : B ≤ lo) (hBw : B ≤ w.heap.size) :
    TellsG Fence.wide n Try.prog 139 #[.pointer (some ⟨b1, 0, none⟩), .pointer (some ⟨b2, 0, none⟩)] (fun x : Nat × Int => #[Value.int .i64 (x.1 : Int), Value.int .i64 x.2])
      (fun _ k => k < lo ∨ k = b1 ∨ k = b2) (fun _ _ => True) (Holds2 q kf l) (toldK kf l) w := by
  intro l0 J Jx W hW _ hY hG h0
  exact asked1_in n hn l0 b1 b2 q B N c A kf l J Jx _ (.inr (.inl rfl)) (.inr (.inr rfl)) (fun k hk => .inl (by omega)) hnd hN hG hY W
    ((hW.cell (p := ⟨b1, 0, none⟩) (World.block_lt_of_cell? w _ hb1)).trans hb1) ((hW.cell (p := ⟨b2, 0, none⟩) (World.block_lt_of_cell? w _ hb2)).trans hb2) (hL.below (hW.mono hBw)) h0
end Go.Proofs.Ytlfgnoicjogfpaa.By
