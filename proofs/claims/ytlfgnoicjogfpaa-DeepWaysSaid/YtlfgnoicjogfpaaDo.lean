/-
  WALK of layer 12's document: a round.
-/
import Derived.Test.YtlfgnoicjogfpaaDl
namespace Go.Proofs.Ytlfgnoicjogfpaa.By
open Go.RowKit
open Mem Gm Rf Dp
set_option linter.unusedSimpArgs false

theorem mx_snoc (st : Int) (d : Nat → Int) (e : Nat) : ∀ l, mx st d (l ++ [e]) = max (mx st d l) (st + d e)
  | [] => by show max (st + d e) 0 = max 0 (st + d e); omega
  | a :: l => by
    show max (st + d a) (mx st d (l ++ [e])) = max (max (st + d a) (mx st d l)) (st + d e)
    rw [mx_snoc st d e l]; omega
/-- The ends of the first j edges, those that are places. -/
def rl (g : List (List Int)) (k j : Nat) : List Nat := ((rowOf g k).take j).filterMap fun c => if isP g c = true then some c.toNat else none
theorem rl_next {g : List (List Int)} {k j : Nat} {c : Int} (h : (rowOf g k)[j]? = some c) : rl g k (j + 1) = rl g k j ++ (if isP g c = true then [c.toNat] else []) := by
  obtain ⟨h1, h2⟩ := List.getElem?_eq_some_iff.1 h
  unfold rl
  rw [List.take_succ_eq_append_getElem h1, List.filterMap_append, h2]
  congr 1
  cases hb : isP g c <;> simp [hb]
theorem rl_all {g : List (List Int)} {k : Nat} (hk : k < g.length) (e : Nat) : e ∈ rl g k (rowOf g k).length ↔ e ∈ adjC g k := by
  unfold rl
  rw [List.take_length, List.mem_filterMap, adjC_mem, E_iff]
  constructor
  · rintro ⟨c, hc, h2⟩
    split at h2
    · rename_i hp
      injection h2 with h2
      have := isP_iff.1 hp
      exact ⟨hk, by omega, by have e9 : (e : Int) = c := by omega
                              rw [e9]; exact hc⟩
    · cases h2
  · rintro ⟨_, h2, h3⟩
    refine ⟨(e : Int), h3, ?_⟩
    rw [if_pos (isP_iff.2 ⟨by omega, by omega⟩)]
    simp

/-- A round's value at a place. -/
def rndF (g : List (List Int)) (ins : List Bool) (own : List Int) (rest step : Int) (d : Nat → Int) (k : Nat) : Int := rnd (memV ins) (adjC g) (ownV own) (bndV rest) (bndV step) d k
theorem rndF_ok (g : List (List Int)) (ins : List Bool) (own : List Int) (rest step : Int) (d : Nat → Int) (k : Nat) : 0 ≤ rndF g ins own rest step d k ∧ rndF g ins own rest step d k ≤ cap := by
  unfold rndF rnd
  split
  · have h1 := mx_nonneg (bndV step) d (adjC g k)
    have h2 := own_ok own k
    have : (0 : Int) ≤ cap := by unfold cap; omega
    omega
  · have := bnd_ok rest
    unfold cap; omega

set_option maxRecDepth 100000 in
set_option maxHeartbeats 8000000 in
theorem round_any (w : World) (A A2 A3 A4 : Option Addr) (c c2 c3 c4 N M K : Nat) (g : List (List Int)) (ins : List Bool) (own D : List Int) (rest step : Int) (hN : g.length = N) (hM : ins.length = M) (hK : own.length = K) (hD : D.length = N) (h : GW w (.slice A N c) g) (hI : LW w (.slice A2 M c2) ins) (hO : IW w (.slice A3 K c3) own) (hDD : IW w (.slice A4 N c4) D)
    (hs : Fits g 24 30) (h0 : ∀ j, 0 ≤ el D j ∧ el D j ≤ cap) :
    Calls Try.prog 74 #[.slice A N c, .slice A2 M c2, .slice A3 K c3, .int .i64 rest, .int .i64 step, .slice A4 N c4] w (IAns N ((List.range N).map (rndF g ins own rest step fun p => el D p)) w) := by
  obtain ⟨i0, hi, hz0, hz1, hz2⟩ := info_parts infoI
  have HMM := Lib.hid (fun W a (hb : Below w.heap.size w W) => rmember_any W w.heap.size N M c c2 A A2 ins a hM (SlV.below hI hb))
  have HG := Lib.hid (fun W (hb : Below w.heap.size w W) => show Gr W w.heap.size (.slice A g.length c) g from by rw [hN]; exact Gr.below h hb)
  have HDC := Lib.hid (fun W (hb : Below w.heap.size w W) (j : Nat) (hj : j < N) => (hDD.on hb).at_ hD hj)
  have HOC := Lib.hid (fun W (hb : Below w.heap.size w W) (j : Nat) (hj : j < K) => (hO.on hb).at_ hK hj)
  have HNR := Lib.hid (fun W => rnear_any rest 0 1048576 W)
  have HNS := Lib.hid (fun W => rnear_any step 0 1048576 W)
  rw [show nearV rest 0 1048576 = bndV rest from rfl] at HNR
  rw [show nearV step 0 1048576 = bndV step from rfl] at HNS
  have HN := Lib.hid hN
  have HK := Lib.hid hK
  have HS := Lib.hid hs
  have H0 := Lib.hid h0
  have hN24 : N ≤ 24 := hN ▸ hs.1
  clear h hI hO hDD hN hM hK hD hs h0
  go_enter Try.func74, Try.ntmps74
  go_wp2_with fail
  go_loopw [13, 14] (fun ov i wr => ∃ k : Nat, k ≤ N ∧ i = .int .i64 k ∧ wr.ownsRow w.heap.size 3 1 ov k (ints ((List.range k).map (rndF g ins own rest step fun p => el D p))) ∧ Below w.heap.size w wr) (fun _ i _ => N - (intOf i).toNat)
  case atStart => exact ⟨0, by omega, rfl, World.ownsRow_nil _ _ _ _, Below.refl _ _⟩
  case round =>
    obtain ⟨k, hk, rfl, hO, hB⟩ := hrel
    by_cases hlt : k < N
    · have HM1 := Lib.hid (HMM.out wr (k : Int) hB)
      rw [rmemV_nat hlt] at HM1
      obtain ⟨b, hb⟩ : ∃ b, memV ins k = b := ⟨_, rfl⟩
      rw [hb] at HM1
      have hnx : (List.range (k + 1)).map (rndF g ins own rest step fun p => el D p) = (List.range k).map (rndF g ins own rest step fun p => el D p) ++ [rndF g ins own rest step (fun p => el D p) k] := by rw [List.range_succ, List.map_append]; rfl
      have HLT := Lib.hid hlt
      have hkI : (k : Int) < (N : Int) := by omega
      have hk0 : (0 : Int) ≤ (k : Int) := by omega
      cases b with
      | false =>
        have hval : rndF g ins own rest step (fun p => el D p) k = bndV rest := by unfold rndF rnd; rw [hb]; rfl
        rw [hval] at hnx
        have HNX := Lib.hid hnx
        obtain ⟨v, hv⟩ : ∃ v, bndV rest = v := ⟨_, rfl⟩
        rw [hv] at HNX HNR
        have HNW := Lib.hid (show (wr.alloc (.cells #[.int .i64 v] 3)).cell? ⟨wr.heap.size, 0, none⟩ = some (.int .i64 v) by rw [(Blk.new wr 3 _).cell]; rfl)
        have HOA := Lib.hid (own_keep (w' := wr.alloc (.cells #[.int .i64 v] 3)) hO fun q _ hq _ => Below.heap_alloc _ _ _ hq)
        have HLO := Lib.hid hO.lt
        have HS1 := Lib.hid (show k + 1 ≤ maxLen by unfold maxLen; omega)
        have HS2 := Lib.hid (show (k + 1) * 8 ≤ 140737488355328 by omega)
        have HS3 := Lib.hid (show w.heap.size ≤ (wr.alloc (.cells #[.int .i64 v] 3)).heap.size by have := hB.size; simp; omega)
        have HBB := Lib.hid hB
        clear hO hB hval hnx hb hv hk
        go_wp2_with (first
          | (go_at_call 23; refine HM1.out.mono ?_; rintro e w2 ⟨rfl, rfl⟩)
          | (go_at_call 121; refine (HNR.out _).mono ?_; rintro e w2 ⟨rfl, rfl⟩)
          | (at_builtin; refine wpList_append_where _ rfl _ _ 26 rfl w.heap.size 3 i0 (.int .i64 0) 8 Try.underlying26 hi hz0 hz1 hz2 rfl u13 k (ints ((List.range k).map (rndF g ins own rest step fun p => el D p))) rfl HOA.out ⟨wr.heap.size, 0, none⟩ 1 (.int .i64 v) rfl HNW.out rfl HS1.out HS2.out HS3.out ?_; intro v' w' h2 h3 h4; clear h4; have H2 := Lib.hid h2; have H3 := Lib.hid h3; clear h2 h3))
        have h2 : w'.ownsRow w.heap.size 3 1 v' (k + 1) (ints ((List.range (k + 1)).map (rndF g ins own rest step fun p => el D p))) := by rw [HNX.out]; have := H2.out; simpa [ints] using this
        have h3 : Below w.heap.size w w' := (HBB.out.alloc HBB.out.size _).grown H3.out HS3.out fun r e => (HLO.out r e).1
        go_roundw
        case rel => exact ⟨k + 1, by have := HLT.out; omega, by go_num, h2, h3⟩
        case measure => have := HLT.out; simp [intOf]; omega
      | true =>
        have hval : rndF g ins own rest step (fun p => el D p) k = min (mx (bndV step) (fun p => el D p) (adjC g k) + ownV own k) cap := by unfold rndF rnd; rw [hb, if_pos rfl]
        have hgr := HG.out wr hB
        obtain ⟨ad, c9, hAe, _, _, hbad, hrows⟩ := hgr.rows (by rw [HN.out]; omega)
        injection hAe with hA3 _ hC9
        obtain ⟨A', c', hrw, hrsl⟩ := hrows k (by rw [HN.out]; exact hlt)
        have hall : mx (bndV step) (fun p => el D p) (rl g k (rowOf g k).length) = mx (bndV step) (fun p => el D p) (adjC g k) := mx_set fun e => rl_all (by rw [HN.out]; exact hlt) e
        have hm30 : (rowOf g k).length ≤ 30 := HS.out.2 k (by rw [HN.out]; exact hlt)
        have HRN := Lib.hid (fun j c (h : (rowOf g k)[j]? = some c) => rl_next (g := g) (k := k) h)
        have HE := Lib.hid (fun j (hj : j < (rowOf g k).length) => show ∃ ad', A' = some ad' ∧ wr.cell? (ad'.add j) = some (.int .i64 (el (rowOf g k) j)) ∧ (rowOf g k)[j]? = some (el (rowOf g k) j) from by
          rcases hrsl.inv with ⟨_, h4, _⟩ | ⟨ad', e, _, _, _, hr⟩
          · omega
          · exact ⟨ad', e, (hr j _ (ints_at hj)).2, by rw [List.getElem?_eq_getElem hj, el_at hj]⟩)
        subst hA3 hC9
        obtain ⟨m, hm⟩ : ∃ m, (rowOf g k).length = m := ⟨_, rfl⟩
        rw [hm] at hrw hall hm30 HE
        have HO9 := Lib.hid hO
        have HB9 := Lib.hid hB
        have HVAL := Lib.hid hval
        have HALL := Lib.hid hall
        have HNX := Lib.hid hnx
        obtain ⟨wo, hwo⟩ : ∃ wo, wo = wr := ⟨_, rfl⟩
        subst hwo
        have hst := bnd_ok step
        generalize bndV step = st at HNS HVAL HALL hst
        clear hO hB hval hall hnx hgr hrows hrsl hbad hm hb hk
        go_wp2_with (go_at_call 23; refine HM1.out.mono ?_; rintro e w2 ⟨rfl, rfl⟩)
        go_loopw [15, 16] (fun mv i wz => ∃ j q : Nat, j ≤ m ∧ i = .int .i64 j ∧ mv = .int .i64 (mx st (fun p => el D p) (rl g k j)) ∧ wz = wo.drewN q) (fun _ i _ => m - (intOf i).toNat)
        case atStart => exact ⟨0, 0, Nat.zero_le _, rfl, rfl, rfl⟩
        case round =>
          obtain ⟨j, q, hj, rfl, rfl, rfl⟩ := hrel
          by_cases hjm : j < m
          · have HJM := Lib.hid hjm
            obtain ⟨ad', rfl, hcj, hgj⟩ := HE.out j hjm
            have hnx2 := HRN.out j _ hgj
            obtain ⟨c0, hc0⟩ : ∃ c0, el (rowOf g k) j = c0 := ⟨_, rfl⟩
            rw [hc0] at hcj hnx2
            have hjI : (j : Int) < (m : Int) := by omega
            have hj0 : (0 : Int) ≤ (j : Int) := by omega
            clear hgj hc0 hj
            by_cases hp : 0 ≤ c0 ∧ c0 < (N : Int)
            · obtain ⟨e, rfl⟩ : ∃ e : Nat, c0 = (e : Int) := ⟨c0.toNat, by omega⟩
              have heN : e < N := by omega
              obtain ⟨ad4, hA4, hce⟩ := HDC.out wo HB9.out e heN
              subst hA4
              have hd := H0.out e
              unfold cap at hd
              have HNX2 := Lib.hid (show mx st (fun p => el D p) (rl g k (j + 1)) = max (mx st (fun p => el D p) (rl g k j)) (st + el D e) from by
                rw [hnx2, if_pos (isP_iff.2 ⟨by omega, by rw [HN.out]; exact hp.2⟩), Int.toNat_natCast, mx_snoc])
              generalize mx st (fun p => el D p) (rl g k j) = mv at HNX2 ⊢
              generalize el D e = dv at hce hd HNX2
              have hw : IntKind.i64.wrap (st + dv) = st + dv := IntWalk.i64_in _ ⟨by omega, by omega⟩
              have heI : (e : Int) < (N : Int) := hp.2
              have he0 : (0 : Int) ≤ (e : Int) := hp.1
              have hHeld0 : wo.cell? (ad.add k) = some (.slice (some ad') m c') ∧ wo.cell? (ad'.add j) = some (.int .i64 (e : Int)) ∧ wo.cell? (ad4.add e) = some (.int .i64 dv) := ⟨hrw, hcj, hce⟩
              clear hnx2 hp
              go_wp2_with fail
              refine wp_region_noPanic ?_
              refine wp_region_held_drew (S := fun W' => W'.cell? (ad.add k) = some (.slice (some ad') m c') ∧ W'.cell? (ad'.add j) = some (.int .i64 (e : Int)) ∧ W'.cell? (ad4.add e) = some (.int .i64 dv)) (by kernel_rfl) (hHeld0) (fun hHeld => ?_)
              refine wpAnyH_take (i := 0) rfl (by kernel_rfl) (by kernel_rfl) (by kernel_rfl) (fun _ _ _ h => h) (Or.inl ⟨by rfl, by intro W hSW; (try dsimp only at hSW); go_simp; try (with_reducible rfl)⟩) hHeld ?_
              try simp only [Act.put, List.getElem_toArray, List.getElem_cons_zero, List.getElem_cons_succ, List.setIfInBounds_toArray, List.set_cons_zero, List.set_cons_succ]
              refine wpAnyH_take (i := 1) rfl (by kernel_rfl) (by kernel_rfl) (by kernel_rfl) (fun _ _ _ h => h) (Or.inl ⟨by rfl, by intro W hSW; (try dsimp only at hSW); go_simp; try (with_reducible rfl)⟩) hHeld ?_
              try simp only [Act.put, List.getElem_toArray, List.getElem_cons_zero, List.getElem_cons_succ, List.setIfInBounds_toArray, List.set_cons_zero, List.set_cons_succ]
              refine wpAnyH_take (i := 3) rfl (by kernel_rfl) (by kernel_rfl) (by kernel_rfl) (fun _ _ _ h => h) (Or.inl ⟨by rfl, by intro W hSW; (try dsimp only at hSW); go_simp; try (with_reducible rfl)⟩) hHeld ?_
              try simp only [Act.put, List.getElem_toArray, List.getElem_cons_zero, List.getElem_cons_succ, List.setIfInBounds_toArray, List.set_cons_zero, List.set_cons_succ]
              refine wpAnyH_take (i := 4) rfl (by kernel_rfl) (by kernel_rfl) (by kernel_rfl) (fun _ _ _ h => h) (Or.inl ⟨by rfl, by intro W hSW; (try dsimp only at hSW); go_simp; try (with_reducible rfl)⟩) hHeld ?_
              try simp only [Act.put, List.getElem_toArray, List.getElem_cons_zero, List.getElem_cons_succ, List.setIfInBounds_toArray, List.set_cons_zero, List.set_cons_succ]
              refine wpAnyH_take (i := 5) rfl (by kernel_rfl) (by kernel_rfl) (by kernel_rfl) (fun _ _ _ h => h) (Or.inl ⟨by rfl, by intro W hSW; (try dsimp only at hSW); go_simp; try (with_reducible rfl)⟩) hHeld ?_
              try simp only [Act.put, List.getElem_toArray, List.getElem_cons_zero, List.getElem_cons_succ, List.setIfInBounds_toArray, List.set_cons_zero, List.set_cons_succ]
              refine wpAnyH_take (i := 6) rfl (by kernel_rfl) (by kernel_rfl) (by kernel_rfl) (fun _ _ _ h => h) (Or.inl ⟨by rfl, by intro W hSW; (try dsimp only at hSW); go_simp; try (with_reducible rfl)⟩) hHeld ?_
              try simp only [Act.put, List.getElem_toArray, List.getElem_cons_zero, List.getElem_cons_succ, List.setIfInBounds_toArray, List.set_cons_zero, List.set_cons_succ]
              refine wpAnyH_take (i := 7) rfl (by kernel_rfl) (by kernel_rfl) (by kernel_rfl) (fun _ _ _ h => h) (Or.inl ⟨by rfl, by intro W hSW; (try dsimp only at hSW); go_simp; try (with_reducible rfl)⟩) hHeld ?_
              try simp only [Act.put, List.getElem_toArray, List.getElem_cons_zero, List.getElem_cons_succ, List.setIfInBounds_toArray, List.set_cons_zero, List.set_cons_succ]
              refine wpAnyH_take (i := 8) rfl (by kernel_rfl) (by kernel_rfl) (by kernel_rfl) (fun _ _ _ h => h) (Or.inl ⟨by rfl, by intro W hSW; (try dsimp only at hSW); go_simp; try (with_reducible rfl)⟩) hHeld ?_
              try simp only [Act.put, List.getElem_toArray, List.getElem_cons_zero, List.getElem_cons_succ, List.setIfInBounds_toArray, List.set_cons_zero, List.set_cons_succ]
              refine wpAnyH_take (i := 9) rfl (by kernel_rfl) (by kernel_rfl) (by kernel_rfl) (fun _ _ _ h => h) (Or.inl ⟨by rfl, by intro W hSW; (try dsimp only at hSW); go_simp; try (with_reducible rfl)⟩) hHeld ?_
              try simp only [Act.put, List.getElem_toArray, List.getElem_cons_zero, List.getElem_cons_succ, List.setIfInBounds_toArray, List.set_cons_zero, List.set_cons_succ]
              refine wpAnyH_take (i := 10) rfl (by kernel_rfl) (by kernel_rfl) (by kernel_rfl) (fun _ _ _ h => h) (Or.inl ⟨by rfl, by intro W hSW; (try dsimp only at hSW); go_simp; try (with_reducible rfl)⟩) hHeld ?_
              try simp only [Act.put, List.getElem_toArray, List.getElem_cons_zero, List.getElem_cons_succ, List.setIfInBounds_toArray, List.set_cons_zero, List.set_cons_succ]
              refine wpAnyH_take (i := 11) rfl (by kernel_rfl) (by kernel_rfl) (by kernel_rfl) (fun _ _ _ h => h) (Or.inl ⟨by rfl, by intro W hSW; (try dsimp only at hSW); go_simp; try (with_reducible rfl)⟩) hHeld ?_
              try simp only [Act.put, List.getElem_toArray, List.getElem_cons_zero, List.getElem_cons_succ, List.setIfInBounds_toArray, List.set_cons_zero, List.set_cons_succ]
              refine wpAnyH_take (i := 12) rfl (by kernel_rfl) (by kernel_rfl) (by kernel_rfl) (fun _ _ _ h => h) (Or.inl ⟨by rfl, by intro W hSW; (try dsimp only at hSW); go_simp; try (with_reducible rfl)⟩) hHeld ?_
              try simp only [Act.put, List.getElem_toArray, List.getElem_cons_zero, List.getElem_cons_succ, List.setIfInBounds_toArray, List.set_cons_zero, List.set_cons_succ]
              refine wpAnyH_ready (rs := [2]) (by kernel_rfl) (by simp) ?_
              refine AllReadyH.cons rfl (fun K9 hK9 => ?_) AllReadyH.nil
              go_simp
              refine (HNS.out _).mono ?_
              rintro e w9 ⟨rfl, rfl⟩
              try go_wp2_with fail
              refine hK9.out _ _ hHeld ?_
              clear hK9 K9 hHeld
              intro hHeld
              try simp only [Act.put, List.getElem_toArray, List.getElem_cons_zero, List.getElem_cons_succ, List.setIfInBounds_toArray, List.set_cons_zero, List.set_cons_succ]
              refine wpAnyH_take (i := 13) rfl (by kernel_rfl) (by kernel_rfl) (by kernel_rfl) (fun _ _ _ h => h) (Or.inl ⟨by rfl, by intro W hSW; (try dsimp only at hSW); go_simp; try (with_reducible rfl)⟩) hHeld ?_
              try simp only [Act.put, List.getElem_toArray, List.getElem_cons_zero, List.getElem_cons_succ, List.setIfInBounds_toArray, List.set_cons_zero, List.set_cons_succ]
              refine wpAnyH_take (i := 14) rfl (by kernel_rfl) (by kernel_rfl) (by kernel_rfl) (fun _ _ _ h => h) (Or.inl ⟨by rfl, by intro W hSW; (try dsimp only at hSW); go_simp; try (with_reducible rfl)⟩) hHeld ?_
              try simp only [Act.put, List.getElem_toArray, List.getElem_cons_zero, List.getElem_cons_succ, List.setIfInBounds_toArray, List.set_cons_zero, List.set_cons_succ]
              refine wpAnyH_take (i := 15) rfl (by kernel_rfl) (by kernel_rfl) (by kernel_rfl) (fun _ _ _ h => h) (Or.inl ⟨by rfl, by intro W hSW; (try dsimp only at hSW); go_simp; try (with_reducible rfl)⟩) hHeld ?_
              try simp only [Act.put, List.getElem_toArray, List.getElem_cons_zero, List.getElem_cons_succ, List.setIfInBounds_toArray, List.set_cons_zero, List.set_cons_succ]
              refine wpAnyH_done (by kernel_rfl) ?_ _
              refine NoPanic.normal ?_
              clear hHeld
              go_wp2_with fail
              go_roundw
              case rel => exact ⟨j + 1, q + 1, by have := HJM.out; omega, by go_num, by rw [HNX2.out], by first | rfl | exact World.drewN_drewN ..⟩
              case measure => have := HJM.out; simp [intOf]; omega
            · have HNX2 := Lib.hid (show mx st (fun p => el D p) (rl g k (j + 1)) = mx st (fun p => el D p) (rl g k j) from by
                rw [hnx2, if_neg (by rw [isP_iff, HN.out]; exact hp), List.append_nil])
              generalize mx st (fun p => el D p) (rl g k j) = mv at HNX2 ⊢
              clear hnx2
              by_cases hp0 : 0 ≤ c0
              · have hp1 : ¬ c0 < (N : Int) := fun h => hp ⟨hp0, h⟩
                clear hp
                go_wp2_with fail
                go_roundw
                case rel => exact ⟨j + 1, q, by have := HJM.out; omega, by go_num, by rw [HNX2.out], rfl⟩
                case measure => have := HJM.out; simp [intOf]; omega
              · clear hp
                go_wp2_with fail
                go_roundw
                case rel => exact ⟨j + 1, q, by have := HJM.out; omega, by go_num, by rw [HNX2.out], rfl⟩
                case measure => have := HJM.out; simp [intOf]; omega
          · obtain rfl : j = m := by omega
            have hmv1 := mx_nonneg st (fun p => el D p) (adjC g k)
            have hmv2 : mx st (fun p => el D p) (adjC g k) ≤ 1048576 + cap := mx_le (by unfold cap; omega) fun e _ => by have := (H0.out e).2; show st + el D e ≤ _; omega
            rw [HALL.out]
            have hvv0 := HVAL.out
            generalize mx st (fun p => el D p) (adjC g k) = mv at hmv1 hmv2 hvv0 ⊢
            unfold cap at hmv2
            have how := own_ok own k
            clear hj hjm
            by_cases hkK : k < K
            · obtain ⟨ad3, hA3, hco⟩ := HOC.out wo HB9.out k hkK
              subst hA3
              have HNO := Lib.hid (fun W => rnear_any (el own k) 0 1048576 W)
              have hoe : nearV (el own k) 0 1048576 = ownV own k := by unfold ownV; rw [HK.out, if_pos hkK]; rfl
              rw [hoe] at HNO
              generalize ownV own k = ow at HNO how hvv0
              generalize el own k = ok at hco HNO
              have hw : IntKind.i64.wrap (mv + ow) = mv + ow := IntWalk.i64_in _ ⟨by omega, by omega⟩
              have hkKI : (k : Int) < (K : Int) := by omega
              obtain ⟨v, hv⟩ : ∃ v, min (mv + ow) cap = v := ⟨_, rfl⟩
              have hvv : rndF g ins own rest step (fun p => el D p) k = v := by rw [hvv0, hv]
              have hmin : min (mv + ow) 1099511627776 = v := hv
              have HKK := Lib.hid hkK
              clear hv hvv0 hoe hmv1 hmv2 how hkK
              have HVV := Lib.hid hvv
              clear hvv
              have HNW := Lib.hid (show ((wo.drewN q).alloc (.cells #[.int .i64 v] 3)).cell? ⟨wo.heap.size, 0, none⟩ = some (.int .i64 v) from (((Blk.new (wo.drewN q) 3 #[.int .i64 v])).cell 0).trans rfl)
              have HOA := Lib.hid (own_keep (w' := (wo.drewN q).alloc (.cells #[.int .i64 v] 3)) HO9.out fun q9 _ hq _ => Below.heap_alloc (wo.drewN q) _ _ hq)
              have HLO := Lib.hid HO9.out.lt
              have HS1 := Lib.hid (show k + 1 ≤ maxLen by have := HLT.out; unfold maxLen; omega)
              have HS2 := Lib.hid (show (k + 1) * 8 ≤ 140737488355328 by have := HLT.out; omega)
              have HS3 := Lib.hid (show w.heap.size ≤ ((wo.drewN q).alloc (.cells #[.int .i64 v] 3)).heap.size from by rw [World.size_alloc]; exact Nat.le_trans HB9.out.size (Nat.le_succ _))
              go_wp2_with (first
                | (go_at_call 121; refine (HNO.out _).mono ?_; rintro e w2 ⟨rfl, rfl⟩)
                | (at_builtin; refine wpList_append_where _ rfl (.tmp 88) (.tmp 91) 26 rfl w.heap.size 3 i0 (.int .i64 0) 8 Try.underlying26 hi hz0 hz1 hz2 rfl u13 k (ints ((List.range k).map (rndF g ins own rest step fun p => el D p))) rfl HOA.out ⟨wo.heap.size, 0, none⟩ 1 (.int .i64 v) rfl HNW.out rfl HS1.out HS2.out HS3.out ?_; intro v' w' h2 h3 h4; clear h4; have H2 := Lib.hid h2; have H3 := Lib.hid h3; clear h2 h3))
              have h2 : w'.ownsRow w.heap.size 3 1 v' (k + 1) (ints ((List.range (k + 1)).map (rndF g ins own rest step fun p => el D p))) := by rw [HNX.out, HVV.out]; have := H2.out; simpa [ints] using this
              have h3 : Below w.heap.size w w' := ((below_drewN HB9.out q).alloc HB9.out.size _).grown H3.out HS3.out fun r e => (HLO.out r e).1
              go_roundw
              case rel => exact ⟨k + 1, by have := HLT.out; omega, by go_num, h2, h3⟩
              case measure => have := HLT.out; simp [intOf]; omega
            · have hoe : ownV own k = 0 := by unfold ownV; rw [HK.out, if_neg hkK]
              rw [hoe, Int.add_zero] at hvv0
              have HNO := Lib.hid (fun W => rnear_any 0 0 1048576 W)
              have hkKI : ¬ (k : Int) < (K : Int) := by omega
              obtain ⟨v, hv⟩ : ∃ v, min mv cap = v := ⟨_, rfl⟩
              have hvv : rndF g ins own rest step (fun p => el D p) k = v := by rw [hvv0, hv]
              have hmin : min mv 1099511627776 = v := hv
              have HKK := Lib.hid hkK
              clear hv hvv0 hoe hmv1 hmv2 how hkK
              have HVV := Lib.hid hvv
              clear hvv
              have HNW := Lib.hid (show ((wo.drewN q).alloc (.cells #[.int .i64 v] 3)).cell? ⟨wo.heap.size, 0, none⟩ = some (.int .i64 v) from (((Blk.new (wo.drewN q) 3 #[.int .i64 v])).cell 0).trans rfl)
              have HOA := Lib.hid (own_keep (w' := (wo.drewN q).alloc (.cells #[.int .i64 v] 3)) HO9.out fun q9 _ hq _ => Below.heap_alloc (wo.drewN q) _ _ hq)
              have HLO := Lib.hid HO9.out.lt
              have HS1 := Lib.hid (show k + 1 ≤ maxLen by have := HLT.out; unfold maxLen; omega)
              have HS2 := Lib.hid (show (k + 1) * 8 ≤ 140737488355328 by have := HLT.out; omega)
              have HS3 := Lib.hid (show w.heap.size ≤ ((wo.drewN q).alloc (.cells #[.int .i64 v] 3)).heap.size from by rw [World.size_alloc]; exact Nat.le_trans HB9.out.size (Nat.le_succ _))
              go_wp2_with (first
                | (go_at_call 121; refine (HNO.out _).mono ?_; rintro e w2 ⟨rfl, rfl⟩)
                | (at_builtin; refine wpList_append_where _ rfl (.tmp 88) (.tmp 91) 26 rfl w.heap.size 3 i0 (.int .i64 0) 8 Try.underlying26 hi hz0 hz1 hz2 rfl u13 k (ints ((List.range k).map (rndF g ins own rest step fun p => el D p))) rfl HOA.out ⟨wo.heap.size, 0, none⟩ 1 (.int .i64 v) rfl HNW.out rfl HS1.out HS2.out HS3.out ?_; intro v' w' h2 h3 h4; clear h4; have H2 := Lib.hid h2; have H3 := Lib.hid h3; clear h2 h3))
              have h2 : w'.ownsRow w.heap.size 3 1 v' (k + 1) (ints ((List.range (k + 1)).map (rndF g ins own rest step fun p => el D p))) := by rw [HNX.out, HVV.out]; have := H2.out; simpa [ints] using this
              have h3 : Below w.heap.size w w' := ((below_drewN HB9.out q).alloc HB9.out.size _).grown H3.out HS3.out fun r e => (HLO.out r e).1
              go_roundw
              case rel => exact ⟨k + 1, by have := HLT.out; omega, by go_num, h2, h3⟩
              case measure => have := HLT.out; simp [intOf]; omega
    · obtain rfl : k = N := by omega
      have hsl := SlV.of_own hO
      obtain ⟨OA, OC, hov⟩ := hsl.form
      subst hov
      have hnl : (ints ((List.range k).map (rndF g ins own rest step fun p => el D p))).length = k := by simp [ints]
      rw [hnl] at hsl ⊢
      have HS := Lib.hid hsl
      have HB := Lib.hid hB
      clear hO hB hsl hnl
      go_wp2_with fail
      go_ret
      exact ⟨OA, OC, rfl, HS.out, HB.out⟩
end Go.Proofs.Ytlfgnoicjogfpaa.By
