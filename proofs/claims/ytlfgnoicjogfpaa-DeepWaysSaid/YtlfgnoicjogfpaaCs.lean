/-
  WALKS of layer 11's document: On. MATHEMATICS of layer 11: who is on a circle, as the document puts it: those on a circle of members.
-/
import Derived.Test.YtlfgnoicjogfpaaCq
import Derived.Test.YtlfgnoicjogfpaaGr
import Derived.Test.YtlfgnoicjogfpaaCh
namespace Go.Proofs.Ytlfgnoicjogfpaa.By
open Go.RowKit
open Mem Gm Rf
set_option linter.unusedSimpArgs false
set_option maxRecDepth 100000

/-- Who is on a circle, as the document puts it: of the places ahead of the k-th one. -/
def ronL (N : Nat) (ins : List Bool) (L : List (List Int)) (k : Nat) : List Nat := (List.range k).filter fun a => rmemV N ins (a : Int) && reach L (rowOf L a) a
theorem ronL_next (N : Nat) (ins : List Bool) (L : List (List Int)) (k : Nat) : ronL N ins L (k + 1) = ronL N ins L k ++ (if (rmemV N ins (k : Int) && reach L (rowOf L k) k) = true then [k] else []) := by
  unfold ronL
  rw [List.range_succ, List.filter_append]
  congr 1
  cases h : (rmemV N ins (k : Int) && reach L (rowOf L k) k) <;> simp [h]
theorem ronL_len (N : Nat) (ins : List Bool) (L : List (List Int)) (k : Nat) : (ronL N ins L k).length ≤ k := by
  unfold ronL
  exact Nat.le_trans (List.length_filter_le _ _) (by simp)

def NatAns (l : List Nat) (w : World) (e : Ending) (w' : World) : Prop := ∃ A c, e = .returned (.slice A l.length c) ∧ SlV w' w'.heap.size (.slice A l.length c) (nats l) ∧ Below w.heap.size w w'

set_option maxHeartbeats 4000000 in
theorem ron_any (w : World) (A A2 : Option Addr) (c c2 M N : Nat) (g : List (List Int)) (ins : List Bool) (hN : g.length = N) (h : Gr w w.heap.size (.slice A N c) g) (hM : ins.length = M) (hI : SlV w w.heap.size (.slice A2 M c2) (bls ins)) (hl : N ≤ 1000) (hr : ∀ k, (rowOf g k).length ≤ 1000) :
    Calls Try.prog 22 #[.slice A N c, .slice A2 M c2] w (NatAns (ronL N ins (witG g ins) N) w) := by
  obtain ⟨i0, hi, hz0, hz1, hz2⟩ := info_parts infoI
  have HWI := Lib.hid (rwithin_any w A A2 c c2 M N g ins hN h hM hI hl hr)
  unfold CleanAns at HWI
  have HMM := Lib.hid (fun W a (hb : Below w.heap.size w W) => rmember_any W w.heap.size N M c c2 A A2 ins a hM (hI.below hb))
  have HGL := Lib.hid (show (witG g ins).length = N by rw [witG_length]; exact hN)
  have HRL := Lib.hid (fun k (hk : k < N) => show (rowOf (witG g ins) k).length ≤ 1000 by
    rw [witG_row (by omega)]; exact Nat.le_trans (wrowL_len _ _ _ _) (hr k))
  rw [HGL.out] at HWI
  generalize witG g ins = L at HGL HRL HWI ⊢
  clear h hN hI hr
  go_enter Try.func22, Try.ntmps22
  go_wp2_with fail
  refine HWI.out.mono ?_
  rintro e w1 ⟨A1, c1, rfl, hg1, hb1⟩
  have HG1 := Lib.hid hg1
  have HB1 := Lib.hid hb1
  clear hg1 hb1 HWI
  go_wp2_with fail
  go_loopw [6, 7] (fun ov i wr => ∃ k : Nat, k ≤ N ∧ i = .int .i64 k ∧ wr.ownsRow w1.heap.size 3 1 ov (ronL N ins L k).length (nats (ronL N ins L k)) ∧ Below w1.heap.size w1 wr) (fun _ i _ => N - (intOf i).toNat)
  case atStart => exact ⟨0, by omega, rfl, ⟨rfl, .inl ⟨rfl, rfl⟩⟩, Below.refl _ _⟩
  case round =>
    obtain ⟨k, hk, rfl, hO, hB⟩ := hrel
    by_cases hlt : k < N
    · have HO := Lib.hid hO
      have HB := Lib.hid hB
      have hgw := hB
      have hg2 := HG1.out.below hB
      have hg3 := hg2
      rw [← HGL.out] at hg3
      obtain ⟨ad, c9, hAe, _, _, hbad, hrows⟩ := hg3.rows (by rw [HGL.out]; omega)
      injection hAe with hA3 _ hC9
      obtain ⟨A', c', hrw, hrsl⟩ := hrows k (by rw [HGL.out]; exact hlt)
      obtain ⟨Z, hZ⟩ : ∃ Z, (rowOf L k).length = Z := ⟨_, rfl⟩
      have hZ1 := HRL.out k hlt
      have HRE := Lib.hid (by
        have := rreach_any wr A1 A' c1 c' L (rowOf L k) (by rw [HGL.out]; exact hg2.more hB.size) (hrsl.more hB.size) (by rw [HGL.out]; omega) (by omega)
        unfold ReachAns at this
        rw [HGL.out, hZ] at this
        exact this)
      rw [hZ] at hrw
      obtain ⟨b1, hb1⟩ : ∃ b1, rmemV N ins (k : Int) = b1 := ⟨_, rfl⟩
      obtain ⟨b2, hb2⟩ : ∃ b2, reach L (rowOf L k) k = b2 := ⟨_, rfl⟩
      have HNX := Lib.hid (ronL_next N ins L k)
      rw [hb1, hb2] at HNX
      have HM1 := Lib.hid (HMM.out wr (k : Int) (HB1.out.trans (hB.mono HB1.out.size)))
      rw [hb1] at HM1
      have hlen := ronL_len N ins L k
      have HB2 := Lib.hid hb2
      subst hA3 hC9
      clear hO hB hgw hg2 hg3 hrows hrsl hZ hZ1 hbad hb1 hb2
      cases b1 with
      | false =>
        go_wp2_with (go_at_call 23; refine HM1.out.mono ?_; rintro e w2 ⟨rfl, rfl⟩)
        go_roundw
        case rel => exact ⟨k + 1, by omega, by go_num, by rw [HNX.out, if_neg (by simp), List.append_nil]; exact HO.out, HB.out⟩
        case measure => simp [intOf]; omega
      | true =>
        go_wp2_with (go_at_call 23; refine HM1.out.mono ?_; rintro e w2 ⟨rfl, rfl⟩)
        refine HRE.out.mono ?_
        rintro e w2 ⟨A4, rfl, hs4, hb4⟩
        obtain ⟨ad4, hA4, hc4⟩ : ∃ ad4, A4 = some ad4 ∧ w2.cell? (ad4.add k) = some (.bool b2) := by
          rcases hs4.inv with ⟨_, h0, _⟩ | ⟨ad4, hA4, _, _, _, hr4⟩
          · omega
          · refine ⟨ad4, hA4, (hr4 k _ ?_).2⟩
            rw [← HB2.out, reachV, List.getElem?_map, HGL.out, List.getElem?_range hlt]; rfl
        subst hA4
        have HB4 := Lib.hid (HB.out.trans (hb4.mono HB.out.size))
        have HO4 := Lib.hid (own_keep (w' := w2) HO.out fun q _ hq _ => hb4.block q hq)
        clear hs4 hb4 HRE
        cases b2 with
        | false =>
          go_wp2_with fail
          go_roundw
          case rel => exact ⟨k + 1, by omega, by go_num, by rw [HNX.out, if_neg (by simp), List.append_nil]; exact HO4.out, HB4.out⟩
          case measure => simp [intOf]; omega
        | true =>
          have HNW := Lib.hid (show (w2.alloc (.cells #[.int .i64 (k : Int)] 3)).cell? ⟨w2.heap.size, 0, none⟩ = some (.int .i64 (k : Int)) by rw [(Blk.new w2 3 _).cell]; rfl)
          have HOA := Lib.hid (own_keep (w' := w2.alloc (.cells #[.int .i64 (k : Int)] 3)) HO4.out fun q _ hq _ => Below.heap_alloc _ _ _ hq)
          have HS1 := Lib.hid (show (ronL N ins L k).length + 1 ≤ maxLen by unfold maxLen; omega)
          have HS2 := Lib.hid (show ((ronL N ins L k).length + 1) * 8 ≤ 140737488355328 by omega)
          have HS3 := Lib.hid (show w1.heap.size ≤ (w2.alloc (.cells #[.int .i64 (k : Int)] 3)).heap.size by have := HB4.out.size; simp; omega)
          clear hlen
          go_wp2_with (at_builtin; refine wpList_append_where _ rfl _ _ 26 rfl w1.heap.size 3 i0 (.int .i64 0) 8 Try.underlying26 hi hz0 hz1 hz2 rfl _ _ _ rfl HOA.out ⟨w2.heap.size, 0, none⟩ 1 (.int .i64 (k : Int)) rfl HNW.out rfl HS1.out HS2.out HS3.out ?_; intro v' w' h2 h3 h4; clear h4; have H2 := Lib.hid h2; have H3 := Lib.hid h3; clear h2 h3)
          have h2 : w'.ownsRow w1.heap.size 3 1 v' (ronL N ins L (k + 1)).length (nats (ronL N ins L (k + 1))) := by rw [HNX.out]; have := H2.out; simpa [nats] using this
          have h3 : Below w1.heap.size w1 w' := (HB4.out.alloc HB4.out.size _).grown H3.out HS3.out fun r e => (HO4.out.lt r e).1
          go_roundw
          case rel => exact ⟨k + 1, by omega, by go_num, h2, h3⟩
          case measure => simp [intOf]; omega
    · obtain rfl : k = N := by omega
      have hsl := SlV.of_own hO
      obtain ⟨OA, OC, hov⟩ := hsl.form
      subst hov
      have hnl : (nats (ronL k ins L k)).length = (ronL k ins L k).length := by simp [nats]
      rw [hnl] at hsl ⊢
      have HS := Lib.hid hsl
      have HB := Lib.hid (HB1.out.trans (hB.mono HB1.out.size))
      clear hO hB hsl hnl
      go_wp2_with fail
      go_ret
      exact ⟨OA, OC, rfl, HS.out, HB.out⟩
end Go.Proofs.Ytlfgnoicjogfpaa.By

namespace Go.Proofs.Ytlfgnoicjogfpaa.By
open Go.RowKit
open Mem Gm Rf Cy

theorem witG_E {g : List (List Int)} {ins : List Bool} {a b : Nat} : E (witG g ins) a b = true ↔ a < g.length ∧ b < g.length ∧ RM g ins a b = true := by
  rw [E_iff, witG_length]
  constructor
  · rintro ⟨ha, hb, hm⟩
    have hm2 : (b : Int) ∈ rowOf (witG g ins) a := hm
    rw [witG_row ha, wrowL, List.mem_filter, List.take_length, Bool.and_eq_true, rmemV_nat ha, rmemV_nat hb] at hm2
    refine ⟨ha, hb, ?_⟩
    unfold RM
    rw [Bool.and_eq_true, Bool.and_eq_true]
    exact ⟨E_iff.2 ⟨ha, hb, hm2.1⟩, hm2.2⟩
  · rintro ⟨ha, hb, h⟩
    refine ⟨ha, hb, ?_⟩
    show (b : Int) ∈ rowOf (witG g ins) a
    unfold RM at h
    rw [Bool.and_eq_true, Bool.and_eq_true] at h
    rw [witG_row ha, wrowL, List.mem_filter, List.take_length, Bool.and_eq_true, rmemV_nat ha, rmemV_nat hb]
    exact ⟨(E_iff.1 h.1).2.2, h.2⟩

/-- The members' edges, of places. -/
def EM (g : List (List Int)) (ins : List Bool) (a b : Nat) : Prop := a < g.length ∧ b < g.length ∧ RM g ins a b = true

theorem walk_way {g : List (List Int)} {S : Nat → Prop} {l : List Nat} (h : Walk g S l) : ∀ v t, l = v :: t → ∃ s, S s ∧ s < g.length ∧ Cy.Way (fun a b => E g a b = true) s v := by
  induction h with
  | one a ha hS => 
    rintro v t h
    injection h with h1 h2
    subst h1
    exact ⟨a, hS, ha, .here a⟩
  | on u v t h he ih =>
    rintro v' t' h'
    injection h' with h1 h2
    subst h1
    obtain ⟨s, h3, h4, h5⟩ := ih u t rfl
    exact ⟨s, h3, h4, h5.snoc he⟩
theorem way_walk {g : List (List Int)} {S : Nat → Prop} {s v : Nat} (h : Cy.Way (fun a b => E g a b = true) s v) : ∀ t, Walk g S (s :: t) → ∃ t', Walk g S (v :: t') := by
  induction h with
  | here a => exact fun t ht => ⟨t, ht⟩
  | on h1 _ ih => exact fun t ht => ih _ (.on _ _ t ht h1)

/-- The document's question is whether the place is on a circle of members. -/
theorem ron_circ {g : List (List Int)} {ins : List Bool} {a : Nat} (ha : a < g.length) : reach (witG g ins) (rowOf (witG g ins) a) a = true ↔ Circ (EM g ins) a := by
  have hE : (fun x y => E (witG g ins) x y = true) = EM g ins := funext fun x => funext fun y => propext witG_E
  rw [reach_iff]
  constructor
  · rintro ⟨t, h⟩
    obtain ⟨s, h1, h2, h3⟩ := walk_way h a t rfl
    rw [hE] at h3
    rw [witG_length] at h2
    refine ⟨s, ?_, h3⟩
    have : E (witG g ins) a s = true := E_iff.2 ⟨by rw [witG_length]; exact ha, by rw [witG_length]; exact h2, h1⟩
    exact witG_E.1 this
  · rintro ⟨y, h1, h2⟩
    have h3 := E_iff.1 (witG_E.2 h1)
    rw [← hE] at h2
    exact way_walk h2 [] (.one y h3.2.1 h3.2.2)
theorem circ_member {g : List (List Int)} {ins : List Bool} {a : Nat} (h : Circ (EM g ins) a) : a < g.length ∧ memV ins a = true := by
  obtain ⟨y, ⟨h1, _, h2⟩, _⟩ := h
  unfold RM at h2
  rw [Bool.and_eq_true, Bool.and_eq_true] at h2
  exact ⟨h1, h2.2.1⟩
/-- Who the document says is on a circle. -/
theorem ronL_mem {g : List (List Int)} {ins : List Bool} {x : Nat} : x ∈ ronL g.length ins (witG g ins) g.length ↔ Circ (EM g ins) x := by
  unfold ronL
  rw [List.mem_filter, List.mem_range, Bool.and_eq_true]
  constructor
  · rintro ⟨h1, _, h3⟩
    exact (ron_circ h1).1 h3
  · intro h
    have h1 := circ_member h
    exact ⟨h1.1, by rw [rmemV_nat h1.1]; exact h1.2, (ron_circ h1.1).2 h⟩
/-- In their order. -/
theorem ronL_sorted (g : List (List Int)) (ins : List Bool) : (ronL g.length ins (witG g ins) g.length).Pairwise (· < ·) := by
  unfold ronL
  exact List.Pairwise.filter _ List.pairwise_lt_range
end Go.Proofs.Ytlfgnoicjogfpaa.By
