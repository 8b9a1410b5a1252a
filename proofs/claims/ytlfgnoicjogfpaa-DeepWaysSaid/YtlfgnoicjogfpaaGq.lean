/-
  WALKS: the document's own Clean, of a graph, and turned.
-/
import Derived.Test.YtlfgnoicjogfpaaGp
import Derived.Test.YtlfgnoicjogfpaaGf
namespace Go.Proofs.Ytlfgnoicjogfpaa.By
open Go.RowKit
set_option maxRecDepth 100000
open Mem Gm Rf

/-- What the document's Clean answers. -/
def CleanAns (w : World) (r : List (List Int)) (e : Ending) (w' : World) : Prop := ∃ A c, e = .returned (.slice A r.length c) ∧ Gr w' w'.heap.size (.slice A r.length c) r ∧ Below w.heap.size w w'

def rowE2 (R : Nat → Nat → Bool) (k j : Nat) : List Int := ((List.range j).filter (R k)).map fun (b : Nat) => (b : Int)
theorem rowE2_next (R : Nat → Nat → Bool) (k j : Nat) : rowE2 R k (j + 1) = rowE2 R k j ++ (if R k j then [(j : Int)] else []) := by
  unfold rowE2
  rw [List.range_succ, List.filter_append, List.map_append]
  by_cases h : R k j = true
  · simp [h]
  · simp [h]
theorem rowE2_len (R : Nat → Nat → Bool) (k j : Nat) : (rowE2 R k j).length ≤ j := by
  unfold rowE2
  rw [List.length_map]
  exact Nat.le_trans (List.length_filter_le _ _) (by simp)

set_option maxHeartbeats 2000000 in
theorem rclean_any (w : World) (A : Option Addr) (c : Nat) (g : List (List Int)) (h : Gr w w.heap.size (.slice A g.length c) g) (hl : g.length ≤ 1000) :
    Calls Try.prog 62 #[.slice A g.length c, .bool false] w (CleanAns w (clean g)) := by
  obtain ⟨i0, hi, hz0, hz1, hz2⟩ := info_parts infoI
  obtain ⟨i1, hj, hy0, hy1, hy2⟩ := info_parts infoR
  obtain ⟨N, hN⟩ : ∃ N, g.length = N := ⟨_, rfl⟩
  have HN := Lib.hid hN
  have HGG := Lib.hid h
  rw [hN] at hl ⊢
  have hgl : (gr N (E g)).length = N := gr_length _ _
  have hgE : gr N (E g) = clean g := by unfold clean; rw [hN]
  obtain ⟨L, hL⟩ : ∃ L, gr N (E g) = L := ⟨_, rfl⟩
  have hrow : ∀ k, k < N → rowOf L k = rowE2 (E g) k N := fun k hk => by rw [← hL]; exact gr_row hk
  rw [hL] at hgl hgE
  have HROW := Lib.hid hrow
  have HGL := Lib.hid hgl
  have HGE := Lib.hid hgE
  clear h hN hgl hgE hL hrow
  go_enter Try.func62, Try.ntmps62
  go_wp2_with fail
  go_loopw [5, 6] (fun ov i wr => ∃ k : Nat, k ≤ N ∧ i = .int .i64 k ∧ OutG wr w.heap.size 26 3 ov (L.take k) ∧ Below w.heap.size w wr) (fun _ i _ => N - (intOf i).toNat)
  case atStart => exact ⟨0, by omega, rfl, ⟨[], by simp, World.ownsRow_nil _ _ _ _, by simp⟩, Below.refl _ _⟩
  case round =>
    obtain ⟨k, hk, rfl, hO, hB⟩ := hrel
    by_cases hlt : k < N
    · have HO := Lib.hid hO
      have HB := Lib.hid hB
      obtain ⟨wo, hwo⟩ : ∃ wo, wo = wr := ⟨_, rfl⟩
      subst hwo
      clear hO hB
      go_wp2_with fail
      go_loopw [7, 8] (fun lv i wr => ∃ j : Nat, j ≤ N ∧ i = .int .i64 j ∧ wr.ownsRow wo.heap.size 3 1 lv (rowE2 (E g) k j).length (ints (rowE2 (E g) k j)) ∧ Below wo.heap.size wo wr) (fun _ i _ => N - (intOf i).toNat)
      case atStart => exact ⟨0, by omega, rfl, World.ownsRow_nil _ _ _ _, Below.refl _ _⟩
      case round =>
        obtain ⟨j, hj2, rfl, hown, hB2⟩ := hrel
        by_cases hjl : j < N
        · have hGw : Gr wr w.heap.size (.slice A g.length c) g := HGG.out.below (HB.out.trans (hB2.mono HB.out.size))
          have HE := Lib.hid (edge_any wr w.heap.size A c g hGw k j (by rw [HN.out]; omega) (by rw [HN.out]; omega))
          rw [HN.out] at HE
          obtain ⟨bl, hbl⟩ : ∃ bl, E g k j = bl := ⟨_, rfl⟩
          rw [hbl] at HE
          have HNX : Hid (rowE2 (E g) k (j + 1) = rowE2 (E g) k j ++ (if bl then [(j : Int)] else [])) := by
            show _ = _
            rw [rowE2_next]
            show _ ++ (if E g k j = true then _ else _) = _
            rw [hbl]
          have hlen : (rowE2 (E g) k j).length ≤ j := rowE2_len _ _ _
          have HOW := Lib.hid hown
          have HB2 := Lib.hid hB2
          clear hGw hbl hown hB2
          cases bl with
          | false =>
            go_wp2_with (go_at_call 24; refine HE.out.mono ?_; rintro e w2 ⟨rfl, rfl⟩)
            go_roundw
            case rel => exact ⟨j + 1, by omega, by go_num, by rw [HNX.out, if_neg (by decide), List.append_nil]; exact HOW.out, HB2.out⟩
            case measure => simp [intOf]; omega
          | true =>
            have HNW := Lib.hid (show (wr.alloc (.cells #[.int .i64 (j : Int)] 3)).cell? ⟨wr.heap.size, 0, none⟩ = some (.int .i64 (j : Int)) by rw [(Blk.new wr 3 _).cell]; rfl)
            have HOA := Lib.hid (own_keep (w' := wr.alloc (.cells #[.int .i64 (j : Int)] 3)) HOW.out fun q _ hq _ => Below.heap_alloc _ _ _ hq)
            have HS1 := Lib.hid (show (rowE2 (E g) k j).length + 1 ≤ maxLen by unfold maxLen; omega)
            have HS2 := Lib.hid (show ((rowE2 (E g) k j).length + 1) * 8 ≤ 140737488355328 by omega)
            have HS3 := Lib.hid (show wo.heap.size ≤ (wr.alloc (.cells #[.int .i64 (j : Int)] 3)).heap.size by have := HB2.out.size; simp; omega)
            clear hlen
            go_wp2_with (first
              | (go_at_call 24; refine HE.out.mono ?_; rintro e w2 ⟨rfl, rfl⟩)
              | (at_builtin; refine wpList_append_where _ rfl _ _ 26 rfl wo.heap.size 3 i0 (.int .i64 0) 8 Try.underlying26 hi hz0 hz1 hz2 rfl _ _ _ rfl HOA.out ⟨wr.heap.size, 0, none⟩ 1 (.int .i64 (j : Int)) rfl HNW.out rfl HS1.out HS2.out HS3.out ?_; intro v' w' h2 h3 h4; clear h4; have H2 := Lib.hid h2; have H3 := Lib.hid h3; clear h2 h3))
            have h2 : w'.ownsRow wo.heap.size 3 1 v' (rowE2 (E g) k (j + 1)).length (ints (rowE2 (E g) k (j + 1))) := by rw [HNX.out]; have := H2.out; simpa [ints] using this
            have h3 : Below wo.heap.size wo w' := (HB2.out.alloc HB2.out.size _).grown H3.out HS3.out fun r e => (HOW.out.lt r e).1
            go_roundw
            case rel => exact ⟨j + 1, by omega, by go_num, h2, h3⟩
            case measure => simp [intOf]; omega
        · obtain rfl : j = N := by omega
          obtain ⟨LA, LC, hlv⟩ : ∃ LA LC, u7 = .slice LA (rowE2 (E g) k j).length LC := by
            rcases hown.2 with ⟨e, e2⟩ | ⟨q, cap, cur, e, _⟩
            · exact ⟨none, 0, by rw [e, e2]⟩
            · exact ⟨_, _, e⟩
          subst hlv
          obtain ⟨rs, hr1, hr2, hr3⟩ := HO.out
          have hkeep : ∀ q, w.heap.size ≤ q → q < wo.heap.size → wr.heap[q]? = wo.heap[q]? := fun q _ hq => hB2.block q hq
          have hr2' := own_keep (w' := wr) hr2 fun q h1 h2 _ => hkeep q h1 h2
          obtain ⟨Z, hZ⟩ : ∃ Z, (rowE2 (E g) k j).length = Z := ⟨_, rfl⟩
          have hkr : rs.length = k := by rw [hr1, List.length_take, HGL.out]; omega
          have HNW := Lib.hid (show (wr.alloc (.cells #[.slice LA Z LC] 26)).cell? ⟨wr.heap.size, 0, none⟩ = some (.slice LA Z LC) by rw [(Blk.new wr 26 _).cell]; rfl)
          have HOA := Lib.hid (own_keep (w' := wr.alloc (.cells #[.slice LA Z LC] 26)) hr2' fun q _ hq _ => Below.heap_alloc _ _ _ hq)
          have HS1 := Lib.hid (show rs.length + 1 ≤ maxLen by unfold maxLen; omega)
          have HS2 := Lib.hid (show (rs.length + 1) * 24 ≤ 140737488355328 by omega)
          have HS3 := Lib.hid (show w.heap.size ≤ (wr.alloc (.cells #[.slice LA Z LC] 26)).heap.size by have := hB2.size; have := HB.out.size; simp; omega)
          have HFIN := Lib.hid (show ∀ v' w', w'.ownsRow w.heap.size 26 1 v' (rs.length + 1) (rs ++ [.slice LA Z LC]) → (wr.alloc (.cells #[.slice LA Z LC] 26)).grownBy w' u5.ownBlock → (v'.ownBlock = u5.ownBlock ∨ v'.ownBlock = some (wr.alloc (.cells #[.slice LA Z LC] 26)).heap.size) → OutG w' w.heap.size 26 3 v' (L.take (k + 1)) ∧ Below w.heap.size w w' from by
            intro v' w' h2 h3 h4
            subst hZ
            have hlk : k < L.length := by rw [HGL.out]; exact hlt
            have e1 : L.take (k + 1) = L.take k ++ [rowE2 (E g) k j] := by
              rw [List.take_succ_eq_append_getElem hlk]
              congr 2
              have := HROW.out k hlt
              rw [← this]
              unfold rowOf; rw [List.getD_eq_getElem?_getD, List.getElem?_eq_getElem hlk]; rfl
            have hup : ∀ q, w.heap.size ≤ q → q < wo.heap.size → (wr.alloc (.cells #[.slice LA (rowE2 (E g) k j).length LC] 26)).heap[q]? = wo.heap[q]? := fun q h1 hq => (Below.heap_alloc _ _ _ (by have := hB2.size; omega)).trans (hkeep q h1 hq)
            refine ⟨?_, ?_⟩
            · rw [e1]
              refine OutG.snoc (w := wr.alloc (.cells #[.slice LA (rowE2 (E g) k j).length LC] 26)) hr1 (fun i rv hi2 => ⟨own_keep (hr3 i rv hi2).1 fun q h1 h2 _ => hup q h1 h2, (hr3 i rv hi2).2⟩) (own_mono (own_keep hown fun q _ hq _ => Below.heap_alloc _ _ _ hq) (by have := HB.out.size; omega)) ?_ h2 h3 ?_
              · cases e : u5.ownBlock with
                | none =>
                  cases e2 : (Value.slice LA (rowE2 (E g) k j).length LC).ownBlock with
                  | none => exact .inl rfl
                  | some q => right; simp
                | some r =>
                  right
                  intro e2
                  have h5 := (hown.lt r e2).1
                  have h6 := (hr2.lt r e).2
                  omega
              · rcases h4 with h4 | h4
                · exact .inl h4
                · exact .inr ⟨_, h4, Nat.le_refl _⟩
            · exact ((HB.out.trans (hB2.mono HB.out.size)).alloc (by have := hB2.size; have := HB.out.size; omega) _).grown h3 HS3.out fun r e => (hr2.lt r e).1)
          rw [hZ]
          clear hown hB2 hr1 hr2 hr3 hr2' hkeep hZ hkr
          go_wp2_with (at_builtin; refine wpList_append_where _ rfl _ _ 22 rfl w.heap.size 26 i1 (.slice none 0 0) 24 Try.underlying22 hj hy0 hy1 hy2 rfl _ _ _ rfl HOA.out ⟨wr.heap.size, 0, none⟩ 1 (.slice LA Z LC) rfl HNW.out rfl HS1.out HS2.out HS3.out ?_; intro v' w' h2 h3 h4; have H2 := Lib.hid h2; have H3 := Lib.hid h3; have H4 := Lib.hid h4; clear h2 h3 h4)
          have hfin := HFIN.out _ _ H2.out H3.out H4.out
          go_roundw
          case rel => exact ⟨k + 1, by omega, by go_num, hfin.1, hfin.2⟩
          case measure => simp [intOf]; omega
    · obtain rfl : k = N := by omega
      rw [List.take_of_length_le (by rw [HGL.out]; exact Nat.le_refl _), HGE.out] at hO
      have hgr := Lib.hid hO.gr
      obtain ⟨OA, OC, hov⟩ := hgr.out.form
      subst hov
      have HB := Lib.hid hB
      clear hO hB
      go_wp2_with fail
      go_ret
      exact ⟨OA, OC, rfl, hgr.out, HB.out⟩

set_option maxHeartbeats 2000000 in
theorem rturn_any (w : World) (A : Option Addr) (c : Nat) (g : List (List Int)) (h : Gr w w.heap.size (.slice A g.length c) g) (hl : g.length ≤ 1000) :
    Calls Try.prog 62 #[.slice A g.length c, .bool true] w (CleanAns w (turn g)) := by
  obtain ⟨i0, hi, hz0, hz1, hz2⟩ := info_parts infoI
  obtain ⟨i1, hj, hy0, hy1, hy2⟩ := info_parts infoR
  obtain ⟨N, hN⟩ : ∃ N, g.length = N := ⟨_, rfl⟩
  have HN := Lib.hid hN
  have HGG := Lib.hid h
  rw [hN] at hl ⊢
  have hgl : (gr N (fun a b => E g b a)).length = N := gr_length _ _
  have hgE : gr N (fun a b => E g b a) = turn g := by unfold turn; rw [hN]
  obtain ⟨L, hL⟩ : ∃ L, gr N (fun a b => E g b a) = L := ⟨_, rfl⟩
  have hrow : ∀ k, k < N → rowOf L k = rowE2 (fun a b => E g b a) k N := fun k hk => by rw [← hL]; exact gr_row hk
  rw [hL] at hgl hgE
  have HROW := Lib.hid hrow
  have HGL := Lib.hid hgl
  have HGE := Lib.hid hgE
  clear h hN hgl hgE hL hrow
  go_enter Try.func62, Try.ntmps62
  go_wp2_with fail
  go_loopw [5, 6] (fun ov i wr => ∃ k : Nat, k ≤ N ∧ i = .int .i64 k ∧ OutG wr w.heap.size 26 3 ov (L.take k) ∧ Below w.heap.size w wr) (fun _ i _ => N - (intOf i).toNat)
  case atStart => exact ⟨0, by omega, rfl, ⟨[], by simp, World.ownsRow_nil _ _ _ _, by simp⟩, Below.refl _ _⟩
  case round =>
    obtain ⟨k, hk, rfl, hO, hB⟩ := hrel
    by_cases hlt : k < N
    · have HO := Lib.hid hO
      have HB := Lib.hid hB
      obtain ⟨wo, hwo⟩ : ∃ wo, wo = wr := ⟨_, rfl⟩
      subst hwo
      clear hO hB
      go_wp2_with fail
      go_loopw [7, 8] (fun lv i wr => ∃ j : Nat, j ≤ N ∧ i = .int .i64 j ∧ wr.ownsRow wo.heap.size 3 1 lv (rowE2 (fun a b => E g b a) k j).length (ints (rowE2 (fun a b => E g b a) k j)) ∧ Below wo.heap.size wo wr) (fun _ i _ => N - (intOf i).toNat)
      case atStart => exact ⟨0, by omega, rfl, World.ownsRow_nil _ _ _ _, Below.refl _ _⟩
      case round =>
        obtain ⟨j, hj2, rfl, hown, hB2⟩ := hrel
        by_cases hjl : j < N
        · have hGw : Gr wr w.heap.size (.slice A g.length c) g := HGG.out.below (HB.out.trans (hB2.mono HB.out.size))
          have HE := Lib.hid (edge_any wr w.heap.size A c g hGw j k (by rw [HN.out]; omega) (by rw [HN.out]; omega))
          rw [HN.out] at HE
          obtain ⟨bl, hbl⟩ : ∃ bl, E g j k = bl := ⟨_, rfl⟩
          rw [hbl] at HE
          have HNX : Hid (rowE2 (fun a b => E g b a) k (j + 1) = rowE2 (fun a b => E g b a) k j ++ (if bl then [(j : Int)] else [])) := by
            show _ = _
            rw [rowE2_next]
            show _ ++ (if E g j k = true then _ else _) = _
            rw [hbl]
          have hlen : (rowE2 (fun a b => E g b a) k j).length ≤ j := rowE2_len _ _ _
          have HOW := Lib.hid hown
          have HB2 := Lib.hid hB2
          clear hGw hbl hown hB2
          cases bl with
          | false =>
            go_wp2_with (go_at_call 24; refine HE.out.mono ?_; rintro e w2 ⟨rfl, rfl⟩)
            go_roundw
            case rel => exact ⟨j + 1, by omega, by go_num, by rw [HNX.out, if_neg (by decide), List.append_nil]; exact HOW.out, HB2.out⟩
            case measure => simp [intOf]; omega
          | true =>
            have HNW := Lib.hid (show (wr.alloc (.cells #[.int .i64 (j : Int)] 3)).cell? ⟨wr.heap.size, 0, none⟩ = some (.int .i64 (j : Int)) by rw [(Blk.new wr 3 _).cell]; rfl)
            have HOA := Lib.hid (own_keep (w' := wr.alloc (.cells #[.int .i64 (j : Int)] 3)) HOW.out fun q _ hq _ => Below.heap_alloc _ _ _ hq)
            have HS1 := Lib.hid (show (rowE2 (fun a b => E g b a) k j).length + 1 ≤ maxLen by unfold maxLen; omega)
            have HS2 := Lib.hid (show ((rowE2 (fun a b => E g b a) k j).length + 1) * 8 ≤ 140737488355328 by omega)
            have HS3 := Lib.hid (show wo.heap.size ≤ (wr.alloc (.cells #[.int .i64 (j : Int)] 3)).heap.size by have := HB2.out.size; simp; omega)
            clear hlen
            go_wp2_with (first
              | (go_at_call 24; refine HE.out.mono ?_; rintro e w2 ⟨rfl, rfl⟩)
              | (at_builtin; refine wpList_append_where _ rfl _ _ 26 rfl wo.heap.size 3 i0 (.int .i64 0) 8 Try.underlying26 hi hz0 hz1 hz2 rfl _ _ _ rfl HOA.out ⟨wr.heap.size, 0, none⟩ 1 (.int .i64 (j : Int)) rfl HNW.out rfl HS1.out HS2.out HS3.out ?_; intro v' w' h2 h3 h4; clear h4; have H2 := Lib.hid h2; have H3 := Lib.hid h3; clear h2 h3))
            have h2 : w'.ownsRow wo.heap.size 3 1 v' (rowE2 (fun a b => E g b a) k (j + 1)).length (ints (rowE2 (fun a b => E g b a) k (j + 1))) := by rw [HNX.out]; have := H2.out; simpa [ints] using this
            have h3 : Below wo.heap.size wo w' := (HB2.out.alloc HB2.out.size _).grown H3.out HS3.out fun r e => (HOW.out.lt r e).1
            go_roundw
            case rel => exact ⟨j + 1, by omega, by go_num, h2, h3⟩
            case measure => simp [intOf]; omega
        · obtain rfl : j = N := by omega
          obtain ⟨LA, LC, hlv⟩ : ∃ LA LC, u7 = .slice LA (rowE2 (fun a b => E g b a) k j).length LC := by
            rcases hown.2 with ⟨e, e2⟩ | ⟨q, cap, cur, e, _⟩
            · exact ⟨none, 0, by rw [e, e2]⟩
            · exact ⟨_, _, e⟩
          subst hlv
          obtain ⟨rs, hr1, hr2, hr3⟩ := HO.out
          have hkeep : ∀ q, w.heap.size ≤ q → q < wo.heap.size → wr.heap[q]? = wo.heap[q]? := fun q _ hq => hB2.block q hq
          have hr2' := own_keep (w' := wr) hr2 fun q h1 h2 _ => hkeep q h1 h2
          obtain ⟨Z, hZ⟩ : ∃ Z, (rowE2 (fun a b => E g b a) k j).length = Z := ⟨_, rfl⟩
          have hkr : rs.length = k := by rw [hr1, List.length_take, HGL.out]; omega
          have HNW := Lib.hid (show (wr.alloc (.cells #[.slice LA Z LC] 26)).cell? ⟨wr.heap.size, 0, none⟩ = some (.slice LA Z LC) by rw [(Blk.new wr 26 _).cell]; rfl)
          have HOA := Lib.hid (own_keep (w' := wr.alloc (.cells #[.slice LA Z LC] 26)) hr2' fun q _ hq _ => Below.heap_alloc _ _ _ hq)
          have HS1 := Lib.hid (show rs.length + 1 ≤ maxLen by unfold maxLen; omega)
          have HS2 := Lib.hid (show (rs.length + 1) * 24 ≤ 140737488355328 by omega)
          have HS3 := Lib.hid (show w.heap.size ≤ (wr.alloc (.cells #[.slice LA Z LC] 26)).heap.size by have := hB2.size; have := HB.out.size; simp; omega)
          have HFIN := Lib.hid (show ∀ v' w', w'.ownsRow w.heap.size 26 1 v' (rs.length + 1) (rs ++ [.slice LA Z LC]) → (wr.alloc (.cells #[.slice LA Z LC] 26)).grownBy w' u5.ownBlock → (v'.ownBlock = u5.ownBlock ∨ v'.ownBlock = some (wr.alloc (.cells #[.slice LA Z LC] 26)).heap.size) → OutG w' w.heap.size 26 3 v' (L.take (k + 1)) ∧ Below w.heap.size w w' from by
            intro v' w' h2 h3 h4
            subst hZ
            have hlk : k < L.length := by rw [HGL.out]; exact hlt
            have e1 : L.take (k + 1) = L.take k ++ [rowE2 (fun a b => E g b a) k j] := by
              rw [List.take_succ_eq_append_getElem hlk]
              congr 2
              have := HROW.out k hlt
              rw [← this]
              unfold rowOf; rw [List.getD_eq_getElem?_getD, List.getElem?_eq_getElem hlk]; rfl
            have hup : ∀ q, w.heap.size ≤ q → q < wo.heap.size → (wr.alloc (.cells #[.slice LA (rowE2 (fun a b => E g b a) k j).length LC] 26)).heap[q]? = wo.heap[q]? := fun q h1 hq => (Below.heap_alloc _ _ _ (by have := hB2.size; omega)).trans (hkeep q h1 hq)
            refine ⟨?_, ?_⟩
            · rw [e1]
              refine OutG.snoc (w := wr.alloc (.cells #[.slice LA (rowE2 (fun a b => E g b a) k j).length LC] 26)) hr1 (fun i rv hi2 => ⟨own_keep (hr3 i rv hi2).1 fun q h1 h2 _ => hup q h1 h2, (hr3 i rv hi2).2⟩) (own_mono (own_keep hown fun q _ hq _ => Below.heap_alloc _ _ _ hq) (by have := HB.out.size; omega)) ?_ h2 h3 ?_
              · cases e : u5.ownBlock with
                | none =>
                  cases e2 : (Value.slice LA (rowE2 (fun a b => E g b a) k j).length LC).ownBlock with
                  | none => exact .inl rfl
                  | some q => right; simp
                | some r =>
                  right
                  intro e2
                  have h5 := (hown.lt r e2).1
                  have h6 := (hr2.lt r e).2
                  omega
              · rcases h4 with h4 | h4
                · exact .inl h4
                · exact .inr ⟨_, h4, Nat.le_refl _⟩
            · exact ((HB.out.trans (hB2.mono HB.out.size)).alloc (by have := hB2.size; have := HB.out.size; omega) _).grown h3 HS3.out fun r e => (hr2.lt r e).1)
          rw [hZ]
          clear hown hB2 hr1 hr2 hr3 hr2' hkeep hZ hkr
          go_wp2_with (at_builtin; refine wpList_append_where _ rfl _ _ 22 rfl w.heap.size 26 i1 (.slice none 0 0) 24 Try.underlying22 hj hy0 hy1 hy2 rfl _ _ _ rfl HOA.out ⟨wr.heap.size, 0, none⟩ 1 (.slice LA Z LC) rfl HNW.out rfl HS1.out HS2.out HS3.out ?_; intro v' w' h2 h3 h4; have H2 := Lib.hid h2; have H3 := Lib.hid h3; have H4 := Lib.hid h4; clear h2 h3 h4)
          have hfin := HFIN.out _ _ H2.out H3.out H4.out
          go_roundw
          case rel => exact ⟨k + 1, by omega, by go_num, hfin.1, hfin.2⟩
          case measure => simp [intOf]; omega
    · obtain rfl : k = N := by omega
      rw [List.take_of_length_le (by rw [HGL.out]; exact Nat.le_refl _), HGE.out] at hO
      have hgr := Lib.hid hO.gr
      obtain ⟨OA, OC, hov⟩ := hgr.out.form
      subst hov
      have HB := Lib.hid hB
      clear hO hB
      go_wp2_with fail
      go_ret
      exact ⟨OA, OC, rfl, hgr.out, HB.out⟩
end Go.Proofs.Ytlfgnoicjogfpaa.By
