/-
  WALKS of layer 11's document: Member. WALKS of layer 11's document: Within.
-/
import Derived.Test.YtlfgnoicjogfpaaCo
import Derived.Test.YtlfgnoicjogfpaaGq
namespace Go.Proofs.Ytlfgnoicjogfpaa.By
open Go.RowKit
open Mem Gm Rf
set_option linter.unusedSimpArgs false

/-- A number is a member's. -/
def rmemV (N : Nat) (ins : List Bool) (a : Int) : Bool := decide (0 ≤ a) && (decide (a < (N : Int)) && memV ins a.toNat)
theorem rmemV_nat {N : Nat} {ins : List Bool} {p : Nat} (hp : p < N) : rmemV N ins (p : Int) = memV ins p := by
  unfold rmemV
  rw [decide_eq_true (by omega : (0 : Int) ≤ (p : Int)), decide_eq_true (by omega : (p : Int) < (N : Int))]
  simp
theorem memV_far {ins : List Bool} {p : Nat} (hp : ins.length ≤ p) : memV ins p = false := by
  unfold memV; rw [List.getElem?_eq_none hp]; rfl

set_option maxRecDepth 100000 in
set_option maxHeartbeats 4000000 in
theorem rmember_any (w : World) (B N M c c2 : Nat) (A A2 : Option Addr) (ins : List Bool) (a : Int) (hM : ins.length = M) (h : SlV w B (.slice A2 M c2) (bls ins)) :
    Calls Try.prog 23 #[.slice A N c, .slice A2 M c2, .int .i64 a] w fun e w' => e = .returned (.bool (rmemV N ins a)) ∧ w = w' := by
  by_cases h0 : 0 ≤ a
  · by_cases h1 : a < (N : Int)
    · by_cases h2 : a < (M : Int)
      · obtain ⟨p, rfl⟩ : ∃ p : Nat, a = (p : Int) := ⟨a.toNat, by omega⟩
        obtain ⟨ad, rfl, hc⟩ := bl_cell hM h (p := p) (by omega)
        rw [rmemV_nat (by omega)]
        generalize memV ins p = b at hc ⊢
        have k0 : decide ((0 : Int) ≤ (p : Int)) = true := decide_eq_true h0
        have k1 : decide ((p : Int) < (N : Int)) = true := decide_eq_true h1
        have k2 : decide ((p : Int) < (M : Int)) = true := decide_eq_true h2
        have k3 : p < N := by omega
        have k4 : p < M := by omega
        clear h hM
        go_enter Try.func23, Try.ntmps23
        go_wp2
        go_ret
        exact ⟨rfl, rfl⟩
      · have hr : rmemV N ins a = false := by
          unfold rmemV; rw [memV_far (by omega)]; simp
        rw [hr]
        have k0 : decide ((0 : Int) ≤ a) = true := decide_eq_true h0
        have k1 : decide (a < (N : Int)) = true := decide_eq_true h1
        have k2 : decide (a < (M : Int)) = false := decide_eq_false h2
        clear h hM hr
        go_enter Try.func23, Try.ntmps23
        go_wp2
        go_ret
        exact ⟨rfl, rfl⟩
    · have hr : rmemV N ins a = false := by
        unfold rmemV; rw [decide_eq_false h1]; simp
      rw [hr]
      have k0 : decide ((0 : Int) ≤ a) = true := decide_eq_true h0
      have k1 : decide (a < (N : Int)) = false := decide_eq_false h1
      clear h hM hr
      go_enter Try.func23, Try.ntmps23
      go_wp2
      go_ret
      exact ⟨rfl, rfl⟩
  · have hr : rmemV N ins a = false := by
      unfold rmemV; rw [decide_eq_false h0]; simp
    rw [hr]
    have k0 : decide ((0 : Int) ≤ a) = false := decide_eq_false h0
    clear h hM hr
    go_enter Try.func23, Try.ntmps23
    go_wp2
    go_ret
    exact ⟨rfl, rfl⟩
end Go.Proofs.Ytlfgnoicjogfpaa.By

namespace Go.Proofs.Ytlfgnoicjogfpaa.By
open Go.RowKit
open Mem Gm Rf
set_option linter.unusedSimpArgs false
set_option maxRecDepth 100000

/-- The edges between members, as the document puts them down: the first j of a row. -/
def wrowL (g : List (List Int)) (ins : List Bool) (k j : Nat) : List Int := ((rowOf g k).take j).filter fun c => rmemV g.length ins (k : Int) && rmemV g.length ins c
def witG (g : List (List Int)) (ins : List Bool) : List (List Int) := (List.range g.length).map fun k => wrowL g ins k (rowOf g k).length
theorem witG_length (g : List (List Int)) (ins : List Bool) : (witG g ins).length = g.length := by simp [witG]
theorem witG_row {g : List (List Int)} {ins : List Bool} {k : Nat} (hk : k < g.length) : rowOf (witG g ins) k = wrowL g ins k (rowOf g k).length := by
  show (witG g ins).getD k [] = _
  unfold witG
  rw [List.getD_eq_getElem?_getD, List.getElem?_map, List.getElem?_range hk]; rfl
theorem wrowL_next {g : List (List Int)} {ins : List Bool} {k j : Nat} {c : Int} (h : (rowOf g k)[j]? = some c) : wrowL g ins k (j + 1) = wrowL g ins k j ++ (if (rmemV g.length ins (k : Int) && rmemV g.length ins c) = true then [c] else []) := by
  obtain ⟨h1, h2⟩ := List.getElem?_eq_some_iff.1 h
  unfold wrowL
  rw [List.take_succ_eq_append_getElem h1, List.filter_append, h2]
  congr 1
  cases hb : (rmemV g.length ins (k : Int) && rmemV g.length ins c) <;> simp [hb]
theorem wrowL_len (g : List (List Int)) (ins : List Bool) (k j : Nat) : (wrowL g ins k j).length ≤ j := by
  unfold wrowL
  refine Nat.le_trans (List.length_filter_le _ _) ?_
  rw [List.length_take]; omega

set_option maxHeartbeats 4000000 in
theorem rwithin_any (w : World) (A A2 : Option Addr) (c c2 M N : Nat) (g : List (List Int)) (ins : List Bool) (hN : g.length = N) (h : Gr w w.heap.size (.slice A N c) g) (hM : ins.length = M) (hI : SlV w w.heap.size (.slice A2 M c2) (bls ins)) (hl : N ≤ 1000) (hr : ∀ k, (rowOf g k).length ≤ 1000) :
    Calls Try.prog 60 #[.slice A N c, .slice A2 M c2] w (CleanAns w (witG g ins)) := by
  obtain ⟨i0, hi, hz0, hz1, hz2⟩ := info_parts infoI
  obtain ⟨i1, hj, hy0, hy1, hy2⟩ := info_parts infoR
  have HN := Lib.hid hN
  have HGG := Lib.hid h
  have HMM := Lib.hid (fun W a (hb : Below w.heap.size w W) => rmember_any W w.heap.size N M c c2 A A2 ins a hM (hI.below hb))
  have HR := Lib.hid hr
  have HGL := Lib.hid (show (witG g ins).length = N by rw [witG_length]; exact hN)
  have HROW := Lib.hid (fun k (hk : k < N) => witG_row (g := g) (ins := ins) (k := k) (by omega))
  have HNX := Lib.hid (fun k j c (h : (rowOf g k)[j]? = some c) => wrowL_next (g := g) (ins := ins) h)
  rw [hN] at HNX
  generalize witG g ins = L at HGL HROW ⊢
  clear h hN hI hr
  go_enter Try.func60, Try.ntmps60
  go_wp2_with fail
  go_loopw [5, 6] (fun ov i wr => ∃ k : Nat, k ≤ N ∧ i = .int .i64 k ∧ OutG wr w.heap.size 26 3 ov (L.take k) ∧ Below w.heap.size w wr) (fun _ i _ => N - (intOf i).toNat)
  case atStart => exact ⟨0, by omega, rfl, ⟨[], by simp, World.ownsRow_nil _ _ _ _, by simp⟩, Below.refl _ _⟩
  case round =>
    obtain ⟨k, hk, rfl, hO, hB⟩ := hrel
    by_cases hlt : k < N
    · have HO := Lib.hid hO
      have HB := Lib.hid hB
      obtain ⟨wo, hwo⟩ : ∃ wo, wo = wr := ⟨_, rfl⟩
      subst hwo
      have hgw := HGG.out
      rw [← HN.out] at hgw
      obtain ⟨ad, c9, hAe, _, _, hbad, hrows⟩ := hgw.rows (by rw [HN.out]; omega)
      injection hAe with hA3 _ hC9
      obtain ⟨A', c', hrw, hrsl⟩ := hrows k (by rw [HN.out]; exact hlt)
      obtain ⟨Z, hZ⟩ : ∃ Z, (rowOf g k).length = Z := ⟨_, rfl⟩
      rw [hZ] at hrw hrsl
      have hZ1 : Z ≤ 1000 := hZ ▸ HR.out k
      have HZ := Lib.hid hZ
      have HRS := Lib.hid hrsl
      have HRW := Lib.hid hrw
      have HBA := Lib.hid (show (ad.add k).block < w.heap.size by rw [add_block]; exact hbad)
      subst hA3 hC9
      obtain ⟨b1, hb1⟩ : ∃ b1, rmemV N ins (k : Int) = b1 := ⟨_, rfl⟩
      have HB1 := Lib.hid hb1
      clear hO hB hgw hrows hrw hrsl hZ hbad hb1
      go_wp2_with fail
      go_loopw [7, 8] (fun lv i wr => ∃ j : Nat, j ≤ Z ∧ i = .int .i64 j ∧ wr.ownsRow wo.heap.size 3 1 lv (wrowL g ins k j).length (ints (wrowL g ins k j)) ∧ Below wo.heap.size wo wr) (fun _ i _ => Z - (intOf i).toNat)
      case atStart => exact ⟨0, by omega, rfl, World.ownsRow_nil _ _ _ _, Below.refl _ _⟩
      case round =>
        obtain ⟨j, hj2, rfl, hown, hB2⟩ := hrel
        have hbw : Below w.heap.size w wr := HB.out.trans (hB2.mono HB.out.size)
        have hc0 : wr.cell? (ad.add k) = some (.slice A' Z c') := (hbw.cell HBA.out).trans HRW.out
        by_cases hjl : j < Z
        · obtain ⟨ad2, hA2, cc, hcc, hcy⟩ : ∃ ad2, A' = some ad2 ∧ ∃ cc : Int, (rowOf g k)[j]? = some cc ∧ wr.cell? (ad2.add j) = some (.int .i64 cc) := by
            have hs := HRS.out.below hbw
            rcases hs.inv with ⟨_, h0, _⟩ | ⟨ad2, hA2, _, _, _, hr2⟩
            · omega
            · have hj3 : j < (rowOf g k).length := by rw [HZ.out]; exact hjl
              exact ⟨ad2, hA2, _, List.getElem?_eq_getElem hj3, (hr2 j _ (by simp [ints, hj3])).2⟩
          subst hA2
          obtain ⟨b2, hb2⟩ : ∃ b2, rmemV N ins cc = b2 := ⟨_, rfl⟩
          have HNX1 := Lib.hid (HNX.out k j cc hcc)
          rw [HB1.out, hb2] at HNX1
          have HE1 := Lib.hid (HMM.out wr (k : Int) hbw)
          rw [HB1.out] at HE1
          have HE2 := Lib.hid (HMM.out wr cc hbw)
          rw [hb2] at HE2
          have hlen : (wrowL g ins k j).length ≤ j := wrowL_len _ _ _ _
          have HOW := Lib.hid hown
          have HB2 := Lib.hid hB2
          clear hbw hcc hb2 hown hB2
          cases b1 with
          | false =>
            go_wp2_with (go_at_call 23; refine HE1.out.mono ?_; rintro e w2 ⟨rfl, rfl⟩)
            go_roundw
            case rel => exact ⟨j + 1, by omega, by go_num, by rw [HNX1.out, if_neg (by simp), List.append_nil]; exact HOW.out, HB2.out⟩
            case measure => simp [intOf]; omega
          | true =>
            cases b2 with
            | false =>
              go_wp2_with (go_at_call 23; first | (refine HE1.out.mono ?_; rintro e w2 ⟨rfl, rfl⟩; clear HE1) | (refine HE2.out.mono ?_; rintro e w2 ⟨rfl, rfl⟩))
              go_roundw
              case rel => exact ⟨j + 1, by omega, by go_num, by rw [HNX1.out, if_neg (by simp), List.append_nil]; exact HOW.out, HB2.out⟩
              case measure => simp [intOf]; omega
            | true =>
              have HNW := Lib.hid (show (wr.alloc (.cells #[.int .i64 cc] 3)).cell? ⟨wr.heap.size, 0, none⟩ = some (.int .i64 cc) by rw [(Blk.new wr 3 _).cell]; rfl)
              have HOA := Lib.hid (own_keep (w' := wr.alloc (.cells #[.int .i64 cc] 3)) HOW.out fun q _ hq _ => Below.heap_alloc _ _ _ hq)
              have HS1 := Lib.hid (show (wrowL g ins k j).length + 1 ≤ maxLen by unfold maxLen; omega)
              have HS2 := Lib.hid (show ((wrowL g ins k j).length + 1) * 8 ≤ 140737488355328 by omega)
              have HS3 := Lib.hid (show wo.heap.size ≤ (wr.alloc (.cells #[.int .i64 cc] 3)).heap.size by have := HB2.out.size; simp; omega)
              clear hlen
              go_wp2_with (first
                | (go_at_call 23; first | (refine HE1.out.mono ?_; rintro e w2 ⟨rfl, rfl⟩; clear HE1) | (refine HE2.out.mono ?_; rintro e w2 ⟨rfl, rfl⟩))
                | (at_builtin; refine wpList_append_where _ rfl _ _ 26 rfl wo.heap.size 3 i0 (.int .i64 0) 8 Try.underlying26 hi hz0 hz1 hz2 rfl _ _ _ rfl HOA.out ⟨wr.heap.size, 0, none⟩ 1 (.int .i64 cc) rfl HNW.out rfl HS1.out HS2.out HS3.out ?_; intro v' w' h2 h3 h4; clear h4; have H2 := Lib.hid h2; have H3 := Lib.hid h3; clear h2 h3))
              have h2 : w'.ownsRow wo.heap.size 3 1 v' (wrowL g ins k (j + 1)).length (ints (wrowL g ins k (j + 1))) := by rw [HNX1.out]; have := H2.out; simpa [ints] using this
              have h3 : Below wo.heap.size wo w' := (HB2.out.alloc HB2.out.size _).grown H3.out HS3.out fun r e => (HOW.out.lt r e).1
              go_roundw
              case rel => exact ⟨j + 1, by omega, by go_num, h2, h3⟩
              case measure => simp [intOf]; omega
        · obtain rfl : j = Z := by omega
          obtain ⟨LA, LC, hlv⟩ : ∃ LA LC, u7 = .slice LA (wrowL g ins k j).length LC := by
            rcases hown.2 with ⟨e, e2⟩ | ⟨q, cap, cur, e, _⟩
            · exact ⟨none, 0, by rw [e, e2]⟩
            · exact ⟨_, _, e⟩
          subst hlv
          obtain ⟨rs, hr1, hr2, hr3⟩ := HO.out
          have hkeep : ∀ q, w.heap.size ≤ q → q < wo.heap.size → wr.heap[q]? = wo.heap[q]? := fun q _ hq => hB2.block q hq
          have hr2' := own_keep (w' := wr) hr2 fun q h1 h2 _ => hkeep q h1 h2
          obtain ⟨Y, hY⟩ : ∃ Y, (wrowL g ins k j).length = Y := ⟨_, rfl⟩
          have hkr : rs.length = k := by rw [hr1, List.length_take, HGL.out]; omega
          have HNW := Lib.hid (show (wr.alloc (.cells #[.slice LA Y LC] 26)).cell? ⟨wr.heap.size, 0, none⟩ = some (.slice LA Y LC) by rw [(Blk.new wr 26 _).cell]; rfl)
          have HOA := Lib.hid (own_keep (w' := wr.alloc (.cells #[.slice LA Y LC] 26)) hr2' fun q _ hq _ => Below.heap_alloc _ _ _ hq)
          have HS1 := Lib.hid (show rs.length + 1 ≤ maxLen by unfold maxLen; omega)
          have HS2 := Lib.hid (show (rs.length + 1) * 24 ≤ 140737488355328 by omega)
          have HS3 := Lib.hid (show w.heap.size ≤ (wr.alloc (.cells #[.slice LA Y LC] 26)).heap.size by have := hB2.size; have := HB.out.size; simp; omega)
          have HFIN := Lib.hid (show ∀ v' w', w'.ownsRow w.heap.size 26 1 v' (rs.length + 1) (rs ++ [.slice LA Y LC]) → (wr.alloc (.cells #[.slice LA Y LC] 26)).grownBy w' u5.ownBlock → (v'.ownBlock = u5.ownBlock ∨ v'.ownBlock = some (wr.alloc (.cells #[.slice LA Y LC] 26)).heap.size) → OutG w' w.heap.size 26 3 v' (L.take (k + 1)) ∧ Below w.heap.size w w' from by
            intro v' w' h2 h3 h4
            subst hY
            have hlk : k < L.length := by rw [HGL.out]; exact hlt
            have e1 : L.take (k + 1) = L.take k ++ [wrowL g ins k j] := by
              rw [List.take_succ_eq_append_getElem hlk]
              congr 2
              have := HROW.out k hlt
              rw [HZ.out] at this
              rw [← this]
              unfold rowOf; rw [List.getD_eq_getElem?_getD, List.getElem?_eq_getElem hlk]; rfl
            have hup : ∀ q, w.heap.size ≤ q → q < wo.heap.size → (wr.alloc (.cells #[.slice LA (wrowL g ins k j).length LC] 26)).heap[q]? = wo.heap[q]? := fun q h1 hq => (Below.heap_alloc _ _ _ (by have := hB2.size; omega)).trans (hkeep q h1 hq)
            refine ⟨?_, ?_⟩
            · rw [e1]
              refine OutG.snoc (w := wr.alloc (.cells #[.slice LA (wrowL g ins k j).length LC] 26)) hr1 (fun i rv hi2 => ⟨own_keep (hr3 i rv hi2).1 fun q h1 h2 _ => hup q h1 h2, (hr3 i rv hi2).2⟩) (own_mono (own_keep hown fun q _ hq _ => Below.heap_alloc _ _ _ hq) (by have := HB.out.size; omega)) ?_ h2 h3 ?_
              · cases e : u5.ownBlock with
                | none =>
                  cases e2 : (Value.slice LA (wrowL g ins k j).length LC).ownBlock with
                  | none => exact .inl rfl
                  | some q => right; simp
                | some r =>
                  right
                  intro e2
                  have h5 := (hown.lt r e2).1
                  have h6 := (hr2.lt r e).2
                  omega
              · rcases h4 with h4 | h4
                · exact .inl h4
                · exact .inr ⟨_, h4, Nat.le_refl _⟩
            · exact ((HB.out.trans (hB2.mono HB.out.size)).alloc (by have := hB2.size; have := HB.out.size; omega) _).grown h3 HS3.out fun r e => (hr2.lt r e).1)
          rw [hY]
          clear hown hB2 hr1 hr2 hr3 hr2' hkeep hY hkr hbw
          go_wp2_with (at_builtin; refine wpList_append_where _ rfl _ _ 22 rfl w.heap.size 26 i1 (.slice none 0 0) 24 Try.underlying22 hj hy0 hy1 hy2 rfl _ _ _ rfl HOA.out ⟨wr.heap.size, 0, none⟩ 1 (.slice LA Y LC) rfl HNW.out rfl HS1.out HS2.out HS3.out ?_; intro v' w' h2 h3 h4; have H2 := Lib.hid h2; have H3 := Lib.hid h3; have H4 := Lib.hid h4; clear h2 h3 h4)
          have hfin := HFIN.out _ _ H2.out H3.out H4.out
          go_roundw
          case rel => exact ⟨k + 1, by omega, by go_num, hfin.1, hfin.2⟩
          case measure => simp [intOf]; omega
    · obtain rfl : k = N := by omega
      rw [List.take_of_length_le (by rw [HGL.out]; exact Nat.le_refl _)] at hO
      have hgr := Lib.hid hO.gr
      obtain ⟨OA, OC, hov⟩ := hgr.out.form
      subst hov
      have HB := Lib.hid hB
      clear hO hB
      go_wp2_with fail
      go_ret
      exact ⟨OA, OC, rfl, hgr.out, HB.out⟩
end Go.Proofs.Ytlfgnoicjogfpaa.By
