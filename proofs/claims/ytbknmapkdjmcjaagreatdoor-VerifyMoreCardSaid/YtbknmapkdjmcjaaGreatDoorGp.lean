/-
  WALKS of the document's own graphs: Few, Edge; lists and graphs that are alike. WALKS of the document's own graphs: Same, of graphs that are alike; Clean.
-/
import Derived.Test.YtbknmapkdjmcjaaGreatDoorGc
import Derived.LoopIn
import Derived.WalkLawsBesides
namespace Go.Proofs.YtbknmapkdjmcjaaGreatDoor.By
open Go.RowKit
open Mem Gm Rf

/-- What there is to read of a graph, by places. -/
theorem Gr.reads {w : World} {B : Nat} {A : Option Addr} {N c : Nat} {g : List (List Int)} (h : Gr w B (.slice A N c) g) (hN : g.length = N) {i : Nat} (hi : i < N) :
    ∃ ad A' c', A = some ad ∧ w.cell? (ad.add i) = some (.slice A' (rowOf g i).length c') ∧ (rowOf g i).length ≤ maxLen ∧ ∀ j, j < (rowOf g i).length → ∃ ad', A' = some ad' ∧ w.cell? (ad'.add j) = some (.int .i64 (el (rowOf g i) j)) := by
  rw [← hN] at h hi
  obtain ⟨ad, c2, e, _, _, _, hr⟩ := h.rows (by omega)
  injection e with e1
  obtain ⟨A', c', h1, h2⟩ := hr i hi
  refine ⟨ad, A', c', e1, h1, ?_, fun j hj => ?_⟩
  · rcases h2.inv with ⟨_, h, _⟩ | ⟨_, _, _, h3, h4, _⟩
    · unfold maxLen; omega
    · omega
  · rcases ints_row h2 with ⟨e, _⟩ | ⟨ad', e, _, hc⟩
    · rw [e] at hj; simp at hj
    · exact ⟨ad', e, hc j hj⟩

theorem Gr.len {w : World} {B : Nat} {A : Option Addr} {N c : Nat} {g : List (List Int)} (h : Gr w B (.slice A N c) g) : N ≤ 9223372036854775807 := by
  obtain ⟨rs, h1, h2, _⟩ := h
  rcases h1.inv with ⟨_, h, _⟩ | ⟨_, _, _, h3, h4, _⟩
  · omega
  · unfold maxLen at h4; omega

def FewAns (g : List (List Int)) (w : World) (e : Ending) (w' : World) : Prop := ∃ bl, e = .returned (.bool bl) ∧ (bl = true ↔ g.length ≤ 24 ∧ ∀ i, i < g.length → (rowOf g i).length ≤ 30) ∧ w = w'

set_option maxHeartbeats 1000000 in
theorem ints_same (w : World) (B B2 : Nat) (A A2 : Option Addr) (c c2 : Nat) (l : List Int) (h : SlV w B (.slice A l.length c) (ints l)) (h2 : SlV w B2 (.slice A2 l.length c2) (ints l)) (hl : l.length ≤ 1000000) :
    Calls Tryz.prog 89 #[.slice A l.length c, .slice A2 l.length c2] w fun e w' => e = .returned (.bool true) ∧ ∃ n, w' = w.drewN n := by
  have hr := ints_row h
  have hr2 := ints_row h2
  obtain ⟨n, hn⟩ : ∃ n, l.length = n := ⟨_, rfl⟩
  rw [hn] at hl hr hr2 ⊢
  have HR := Lib.hid (show ∀ j, j < n → ∃ ad ad2, A = some ad ∧ A2 = some ad2 ∧ w.cell? (ad.add j) = some (.int .i64 (el l j)) ∧ w.cell? (ad2.add j) = some (.int .i64 (el l j)) from fun j hj => by
    rcases hr with ⟨e, _⟩ | ⟨ad, e, _, hc⟩
    · rw [e] at hn; simp at hn; omega
    · rcases hr2 with ⟨e2, _⟩ | ⟨ad2, e2, _, hc2⟩
      · rw [e2] at hn; simp at hn; omega
      · exact ⟨ad, ad2, e, e2, hc j hj, hc2 j hj⟩)
  clear h h2 hr hr2 hn
  go_enter Tryz.func89, Tryz.ntmps89
  go_wp2_with fail
  go_loopw [5] (fun i wr => ∃ k q : Nat, k ≤ n ∧ i = .int .i64 k ∧ wr = w.drewN q) (fun i _ => n - (intOf i).toNat)
  case atStart => exact ⟨0, 0, by omega, rfl, rfl⟩
  case round =>
    obtain ⟨k, q, hk, rfl, rfl⟩ := hrel
    by_cases hlt : k < n
    · obtain ⟨ad, ad2, rfl, rfl, hx, hx2⟩ := HR.out k hlt
      generalize el l k = y at hx hx2
      have hk0 : (0 : Int) ≤ (k : Int) := by omega
      have hkn : (k : Int) < (n : Int) := by omega
      go_wp2_with fail
      go_quiet (fail)
      go_wp2_with fail
      go_roundw
      case rel => exact ⟨k + 1, q + nq, by omega, by go_num, by first | rfl | exact World.drewN_drewN ..⟩
      case measure => simp [intOf]; omega
    · go_wp2_with fail
      go_ret
      exact ⟨rfl, q, rfl⟩

end Go.Proofs.YtbknmapkdjmcjaaGreatDoor.By

namespace Go.Proofs.YtbknmapkdjmcjaaGreatDoor.By
open Go.RowKit
open Mem Gm Rf

/-- Rows that are put one behind the other: where they lie, and that the list of them lies elsewhere. -/
def OutG (w : World) (base : Nat) (T E : TypeId) (ov : Value) (L : List (List Int)) : Prop :=
  ∃ rs : List Value, rs.length = L.length ∧ w.ownsRow base T 1 ov rs.length rs ∧ ∀ (i : Nat) rv, rs[i]? = some rv → w.ownsRow base E 1 rv (rowOf L i).length (ints (rowOf L i)) ∧ (rv.ownBlock = none ∨ rv.ownBlock ≠ ov.ownBlock)

theorem OutG.keep {w w' : World} {base : Nat} {T E : TypeId} {ov : Value} {L : List (List Int)} (h : OutG w base T E ov L) (hk : ∀ g, base ≤ g → g < w.heap.size → w'.heap[g]? = w.heap[g]?) : OutG w' base T E ov L := by
  obtain ⟨rs, h1, h2, h3⟩ := h
  exact ⟨rs, h1, own_keep h2 fun g hg hl _ => hk g hg hl, fun i rv hi => ⟨own_keep (h3 i rv hi).1 fun g hg hl _ => hk g hg hl, (h3 i rv hi).2⟩⟩

theorem rowOf_snoc_lt {L : List (List Int)} {l : List Int} {i : Nat} (hi : i < L.length) : rowOf (L ++ [l]) i = rowOf L i := by
  unfold rowOf; rw [List.getD_eq_getElem?_getD, List.getElem?_append_left hi, List.getD_eq_getElem?_getD]
theorem rowOf_snoc_eq {L : List (List Int)} {l : List Int} : rowOf (L ++ [l]) L.length = l := by
  unfold rowOf; rw [List.getD_eq_getElem?_getD, List.getElem?_append_right (Nat.le_refl _)]; simp

/-- One more row. -/
theorem OutG.snoc {w w1 : World} {base : Nat} {T E : TypeId} {ov ov' lv : Value} {L : List (List Int)} {l : List Int} {rs : List Value} (h1 : rs.length = L.length)
    (h3 : ∀ (i : Nat) rv, rs[i]? = some rv → w.ownsRow base E 1 rv (rowOf L i).length (ints (rowOf L i)) ∧ (rv.ownBlock = none ∨ rv.ownBlock ≠ ov.ownBlock))
    (hl : w.ownsRow base E 1 lv l.length (ints l)) (hlo : lv.ownBlock = none ∨ lv.ownBlock ≠ ov.ownBlock)
    (hown : w1.ownsRow base T 1 ov' (rs.length + 1) (rs ++ [lv])) (hg : w.grownBy w1 ov.ownBlock) (hpl : ov'.ownBlock = ov.ownBlock ∨ ∃ k, ov'.ownBlock = some k ∧ w.heap.size ≤ k) : OutG w1 base T E ov' (L ++ [l]) := by
  have keep : ∀ {rv : Value} {n : Nat} {xs : List Value}, w.ownsRow base E 1 rv n xs → (rv.ownBlock = none ∨ rv.ownBlock ≠ ov.ownBlock) → w1.ownsRow base E 1 rv n xs ∧ (rv.ownBlock = none ∨ rv.ownBlock ≠ ov'.ownBlock) := fun {rv n xs} h hne => by
    refine ⟨own_keep h fun g hg' hlt he => hg.block g hlt fun e => ?_, ?_⟩
    · rcases hne with hne | hne
      · rw [hne] at he; cases he
      · exact hne (he.trans e)
    · rcases hne with hne | hne
      · exact .inl hne
      · rcases hpl with hpl | ⟨k, hk, hk2⟩
        · right; rw [hpl]; exact hne
        · right
          intro e
          have := (h.lt k (e.trans hk)).2
          omega
  refine ⟨rs ++ [lv], by simp [h1], by simpa using hown, fun i rv hi => ?_⟩
  by_cases hlt : i < rs.length
  · rw [List.getElem?_append_left hlt] at hi
    rw [rowOf_snoc_lt (by omega)]
    exact keep (h3 i rv hi).1 (h3 i rv hi).2
  · have hi2 := (List.getElem?_eq_some_iff.1 hi).1
    have e : i = L.length := by simp at hi2; omega
    subst e
    rw [List.getElem?_append_right (by omega), h1, Nat.sub_self] at hi
    simp at hi
    subst hi
    rw [rowOf_snoc_eq]
    exact keep hl hlo

theorem OutG.gr {w : World} {base : Nat} {T E : TypeId} {ov : Value} {L : List (List Int)} (h : OutG w base T E ov L) : Gr w w.heap.size ov L := by
  obtain ⟨rs, h1, h2, h3⟩ := h
  refine ⟨rs, SlV.of_own h2, h1, fun i rv hi => ?_⟩
  have hs := SlV.of_own (h3 i rv hi).1
  rcases (h3 i rv hi).1.2 with ⟨e, e2⟩ | ⟨g, c, cur, e, _⟩
  · exact ⟨none, 0, by rw [e, e2], hs⟩
  · exact ⟨_, _, e, hs⟩

theorem own_mono {w : World} {base base' : Nat} {e : TypeId} {v : Value} {n : Nat} {xs : List Value} (h : w.ownsRow base e 1 v n xs) (hb : base' ≤ base) : w.ownsRow base' e 1 v n xs := by
  refine ⟨h.1, ?_⟩
  rcases h.2 with h2 | ⟨g, cap, cur, hv, h3, r⟩
  · exact .inl h2
  · exact .inr ⟨g, cap, cur, hv, Nat.le_trans hb h3, r⟩

theorem wpList_append_where {P : Program} (w : World) {ops : Array Oper} {rest : List Oper} {o : Oper} {a : Act} {Q : Exit → Act → World → Prop} (hgd : o.guard = none) (s x : Operand) (t : TypeId)
    (ho : o.op = .call { callee := .builtin .append, args := #[s, x], argTypes := #[t, t] })
    (base : Nat) (e : TypeId) (i : TypeInfo) (z : Value) (bytes : Nat) (ht : P.underlying t = some (.slice e)) (hi : P.info? e = some i) (hz : i.zero = some z)
    (hsize : i.size = 1) (hby : i.bytes = bytes) (hzs : z.cells.size = 1)
    (v : Value) (n : Nat) (xs : List Value) (hs : a.eval s = v) (hown : w.ownsRow base e 1 v n xs)
    (ad : Addr) (c : Nat) (u : Value) (hx : a.eval x = .slice (some ad) 1 c) (hu : w.cell? ad = some u) (h1 : u.oneCell' = true)
    (h63 : n + 1 ≤ maxLen) (hbytes : (n + 1) * bytes ≤ 140737488355328) (hbase : base ≤ w.heap.size)
    (hK : ∀ v' w', w'.ownsRow base e 1 v' (n + 1) (xs ++ [u]) → w.grownBy w' v.ownBlock → (v'.ownBlock = v.ownBlock ∨ v'.ownBlock = some w.heap.size) → wpList P ops Q rest (a.put o.dst v') w') : wpList P ops Q (o :: rest) a w :=
  wpList_plain hgd fun _ hK2 => by
    have hnews : ∀ j y, [u][j]? = some y → w.cell? (ad.add j) = some y := fun j y hy => by
      cases j with
      | zero => simp at hy; subst hy; simpa [Addr.add] using hu
      | succ j => simp at hy
    have h1' : ∀ y ∈ [u], y.oneCell' = true := fun y hy => by rw [List.mem_singleton] at hy; subst hy; exact h1
    obtain ⟨v', w', hr, h2, h3, h4⟩ := run_append_own (P := P) w base t o.type e i z 1 bytes ht hi hz hsize hby hzs (by decide) v n xs hown ad 1 c [u] rfl hnews h1' h63 hbytes hbase
    have h5 := append_where (P := P) w base t o.type e i z 1 bytes ht hi hz hsize hby v n xs hown ad 1 c [u] (by decide) rfl hnews h1' h63 hbytes hr
    unfold Oper.wp execOp
    simp only [ho, resolve, invoke, builtin, Sem.run_bind, Sem.run_pure, Result.andThen_ok, List.map_toArray, List.map_cons, List.map_nil, hs, hx, hr]
    exact hK2 _ _ (hK v' w' h2 h3 h5)
end Go.Proofs.YtbknmapkdjmcjaaGreatDoor.By
