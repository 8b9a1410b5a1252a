/-
  WALKS of layer 15: Refs; the document's own.
-/
import Derived.Test.YthkbdclnnpcoiaaDoorEq
namespace Go.Proofs.YthkbdclnnpcoiaaDoor.By
open Go.RowKit
open Mem Gm Rf
set_option linter.unusedSimpArgs false
set_option linter.unusedVariables false

/-- Half way: those ahead are symbols, those behind places. -/
def hfV (rs : List Rl) (nR k p : Nat) : Int := if p < k then rfV rs nR p else fmT rs nR p
theorem hf_next (rs : List Rl) (nR k N : Nat) (u : Int) (hu : rfV rs nR k = u) : (arrN N fun p => Value.int .i64 (hfV rs nR (k + 1) p)) = (arrN N fun p => .int .i64 (hfV rs nR k p)).setIfInBounds k (.int .i64 u) := by
  rw [arrN_set]
  unfold arrN
  congr 1
  refine List.map_congr_left fun p hp => ?_
  unfold hfV
  by_cases e : p = k
  · subst e; rw [if_pos (by omega), if_pos rfl, hu]
  · rw [if_neg e]
    by_cases h : p < k
    · rw [if_pos h, if_pos (by omega)]
    · rw [if_neg h, if_neg (by omega)]
theorem hf_same (rs : List Rl) (nR k N : Nat) (hu : rfV rs nR k = fmT rs nR k) : (arrN N fun p => Value.int .i64 (hfV rs nR (k + 1) p)) = arrN N fun p => .int .i64 (hfV rs nR k p) := by
  unfold arrN
  congr 1
  refine List.map_congr_left fun p hp => ?_
  unfold hfV
  by_cases e : p = k
  · subst e; rw [if_pos (by omega), if_neg (by omega), hu]
  · by_cases h : p < k
    · rw [if_pos h, if_pos (by omega)]
    · rw [if_neg h, if_neg (by omega)]
theorem hf_all (rs : List Rl) (nR N : Nat) : (arrN N fun p => Value.int .i64 (hfV rs nR N p)) = arrN N fun p => .int .i64 (rfV rs nR p) := by
  unfold arrN
  congr 1
  refine List.map_congr_left fun p hp => ?_
  unfold hfV; rw [if_pos (List.mem_range.1 hp)]

set_option maxRecDepth 100000 in
set_option maxHeartbeats 2000000 in
theorem refs_any (w : World) (kd : Int) (AW AR : Option Addr) (nW cW nR cR : Nat) (rs : List Rl) (h : RlL w AR nR cR rs) (hR : nR ≤ 1000000) (hN : nW ≤ 4096) :
    Calls Tryd.prog 11 #[.agg #[.int .i64 kd, .slice AW nW cW, .slice AR nR cR]] w (IAns nW (rfL rs nR nW) w) := by
  obtain ⟨W1, hW1⟩ : ∃ W1, w.alloc (.cells #[.int .i64 kd, .slice AW nW cW, .slice AR nR cR] 25) = W1 := ⟨_, rfl⟩
  have hsz1 : w.heap.size < W1.heap.size := by rw [← hW1]; simp
  have hB0 : Below w.heap.size w W1 := by rw [← hW1]; exact alloc_ _ _
  have HB0 := Lib.hid hB0
  have hz1 : W1.heap.size = w.heap.size + 1 := by rw [← hW1]; simp
  have HX := Lib.hid (show ∀ W, Below W1.heap.size W1 W → Blk W w.heap.size 25 #[.int .i64 kd, .slice AW nW cW, .slice AR nR cR] from fun W hb => (hb.block _ hsz1).trans (by rw [← hW1]; exact Blk.new w _ _))
  have HF := Lib.hid (firsts_any W1 AR nR cR nW rs (h.on hB0) hR (by omega))
  have HCR := Lib.hid (fun W (hb : Below w.heap.size w W) i (hi : i < nR) => (h.on hb).at_ hi)
  have HZ1 := Lib.hid hz1
  obtain ⟨c0, c1, c2⟩ := blk3 (HX.out W1 (Below.refl _ _))
  clear h hB0 hz1
  go_enter Tryd.func11, Tryd.ntmps11
  go_wp2_with fail
  clear hW1 c0 c1 c2
  refine HF.out.mono ?_
  rintro e w2 ⟨db, rfl, hdb, hb, hbel⟩
  have HB := Lib.hid hb
  have HE := Lib.hid hbel
  have HDB := Lib.hid hdb
  clear hb hbel hdb
  go_wp2_with fail
  go_loopw [14] (fun i wr => ∃ k : Nat, k ≤ nW ∧ i = .int .i64 (k : Int) ∧ Blk wr db 3 (arrN nW fun p => .int .i64 (hfV rs nR k p)) ∧ Below W1.heap.size W1 wr) (fun i _ => nW - (intOf i).toNat)
  case atStart => exact ⟨0, Nat.zero_le _, rfl, HB.out, HE.out⟩
  case round =>
    obtain ⟨k, hk, rfl, hblk, hbel⟩ := hrel
    have HBK := Lib.hid hblk
    have HBE := Lib.hid hbel
    obtain ⟨c0, c1, c2⟩ := blk3 (HX.out wr hbel)
    clear hblk hbel
    by_cases hlt : k < nW
    · have hkI : (k : Int) < (nW : Int) := by omega
      have hk0 : 0 ≤ (k : Int) := by omega
      have hcell : wr.cell? ⟨db, k, none⟩ = some (.int .i64 (fmT rs nR k)) := by rw [HBK.out.cell, arrN_at _ hlt]; unfold hfV; rw [if_neg (by omega)]
      have hfr : wr.frozen? ⟨db, k, none⟩ = false := HBK.out.frozen k
      rcases fmT_min rs k nR with ⟨h1, _⟩ | ⟨i, hi, h2, _⟩
      · have HS := Lib.hid (hf_same rs nR k nW (by unfold rfV; rw [if_pos h1, h1]))
        rw [h1] at hcell
        clear h1
        go_wp2_with fail
        go_roundw
        case rel => exact ⟨k + 1, by omega, by go_num, by rw [HS.out]; exact HBK.out, HBE.out⟩
        case measure => simp [intOf]; omega
      · have hne : ((i : Int) != -1) = true := by simp
        have hiI : (i : Int) < (nR : Int) := by omega
        have hi0 : 0 ≤ (i : Int) := by omega
        obtain ⟨ad, rfl, _, _, d1, _⟩ := HCR.out wr (to_ HB0.out HBE.out) i hi
        have HS := Lib.hid (hf_next rs nR k nW (rlAt rs i).2.1 (by unfold rfV; rw [if_neg (by omega), h2, Int.toNat_natCast]))
        generalize (rlAt rs i).2.1 = x at d1 HS
        rw [h2] at hcell
        clear h2 hi
        go_wp2_with fail
        go_roundw
        case rel => exact ⟨k + 1, by omega, by go_num, by rw [HS.out]; exact HBK.out.stored k _, HBE.out.setCell (p := ⟨db, k, none⟩) HDB.out _⟩
        case measure => simp [intOf]; omega
    · obtain rfl : k = nW := by omega
      have HA := Lib.hid (hf_all rs nR k)
      go_wp2_with fail
      go_ret
      have h9 := HBK.out
      rw [HA.out] at h9
      exact ⟨_, _, rfl, arr_iw h9 (by omega), to_ HB0.out HBE.out⟩

theorem take_set {α : Type} (l : List α) (N k : Nat) (u : α) : (l.set k u).take N = (l.take N).set k u := by
  apply List.ext_getElem?
  intro i
  by_cases h : i < N
  · rw [List.getElem?_take, if_pos h]
    by_cases e : k = i
    · subst e
      rw [List.getElem?_set, List.getElem?_set, List.length_take]
      have e9 : (k < min N l.length) = (k < l.length) := propext ⟨fun h1 => by omega, fun h1 => by omega⟩
      simp only [if_true, e9]
    · rw [List.getElem?_set_ne e, List.getElem?_set_ne e, List.getElem?_take, if_pos h]
  · rw [List.getElem?_take, if_neg h, List.getElem?_eq_none (by rw [List.length_set, List.length_take]; omega)]

set_option maxRecDepth 100000 in
set_option maxHeartbeats 2000000 in
theorem rrefs_any (w : World) (kd : Int) (AW AR : Option Addr) (nW cW nR cR : Nat) (rs : List Rl) (h : RlL w AR nR cR rs) (hR : nR ≤ 1000000) (hN : nW ≤ 4096) :
    Calls Tryd.prog 12 #[.agg #[.int .i64 kd, .slice AW nW cW, .slice AR nR cR]] w (IAns nW (rfL rs nR nW) w) := by
  obtain ⟨W1, hW1⟩ : ∃ W1, w.alloc (.cells #[.int .i64 kd, .slice AW nW cW, .slice AR nR cR] 25) = W1 := ⟨_, rfl⟩
  have hsz1 : w.heap.size < W1.heap.size := by rw [← hW1]; simp
  have hB0 : Below w.heap.size w W1 := by rw [← hW1]; exact alloc_ _ _
  have HB0 := Lib.hid hB0
  have HX := Lib.hid (show ∀ W, Below W1.heap.size W1 W → Blk W w.heap.size 25 #[.int .i64 kd, .slice AW nW cW, .slice AR nR cR] from fun W hb => (hb.block _ hsz1).trans (by rw [← hW1]; exact Blk.new w _ _))
  have HF := Lib.hid (rmarks_own W1 AR nR cR nW (nW : Int) rs (h.on hB0) hR (by omega))
  have HCR := Lib.hid (fun W (hb : Below w.heap.size w W) i (hi : i < nR) => (h.on hb).at_ hi)
  obtain ⟨c0, c1, c2⟩ := blk3 (HX.out W1 (Below.refl _ _))
  clear h hB0
  go_enter Tryd.func12, Tryd.ntmps12
  go_wp2_with fail
  clear hW1 c0 c1 c2
  refine HF.out.mono ?_
  rintro e w2 ⟨A2, cp, rfl, hown, hbel⟩
  have HE := Lib.hid hbel
  rcases hown.2 with ⟨e1, e2⟩ | ⟨g, cap, cur, hv, hg1, hg2, hcc, hcm, hcs, hct⟩
  · injection e1 with e3 e4 e5
    subst e3 e4 e5
    clear hown hbel e2
    go_wp2_with fail
    go_loopw [4] (fun i wr => i = .int .i64 0 ∧ wr = w2) (fun _ _ => 0)
    case atStart => exact ⟨rfl, rfl⟩
    case round =>
      obtain ⟨rfl, rfl⟩ := hrel
      go_wp2_with fail
      go_ret
      exact ⟨_, _, rfl, .nil, to_ HB0.out HE.out⟩
  · injection hv with e3 e4 e5
    subst e3 e5
    rw [Nat.mul_one] at hct hcs
    have HG1 := Lib.hid hg1
    have HCC := Lib.hid (show nW ≤ cp ∧ cp ≤ maxLen from ⟨hcc, hcm⟩)
    have HB2 := Lib.hid (show Blk w2 g 3 cur from hg2)
    have HT2 := Lib.hid (show cur.toList.take nW = ints ((List.range nW).map (hfV rs nR 0)) from by
      rw [hct]; unfold fmL; congr 2)
    have HS2 := Lib.hid hcs
    clear hown hbel hg1 hg2 hcc hcm hcs hct
    go_wp2_with fail
    go_loopw [4] (fun i wr => ∃ (k : Nat) (cur : Array Value), k ≤ nW ∧ i = .int .i64 (k : Int) ∧ Blk wr g 3 cur ∧ Below W1.heap.size W1 wr ∧ Hid (cur.size = cp) ∧ Hid (cur.toList.take nW = ints ((List.range nW).map (hfV rs nR k)))) (fun i _ => nW - (intOf i).toNat)
    case atStart => exact ⟨0, cur, Nat.zero_le _, rfl, HB2.out, HE.out, HS2, HT2⟩
    case round =>
      obtain ⟨k, cur, hk, rfl, hblk, hbel, HS, HT⟩ := hrel
      have HBK := Lib.hid hblk
      have HBE := Lib.hid hbel
      obtain ⟨c0, c1, c2⟩ := blk3 (HX.out wr hbel)
      clear hblk hbel
      by_cases hlt : k < nW
      · have hkI : (k : Int) < (nW : Int) := by omega
        have hk0 : 0 ≤ (k : Int) := by omega
        have hcell : wr.cell? ⟨g, k, none⟩ = some (.int .i64 (fmT rs nR k)) := by
          rw [HBK.out.cell, ← Array.getElem?_toList]
          have h9 : (cur.toList.take nW)[k]? = cur.toList[k]? := by rw [List.getElem?_take, if_pos hlt]
          rw [← h9, HT.out]
          unfold ints
          rw [List.getElem?_map, List.getElem?_map, List.getElem?_range hlt]
          unfold hfV; simp
        have hfr : wr.frozen? ⟨g, k, none⟩ = false := HBK.out.frozen k
        rcases fmT_min rs k nR with ⟨h1, _⟩ | ⟨i, hi, h2, _⟩
        · have HSm := Lib.hid (show (List.range nW).map (hfV rs nR (k + 1)) = (List.range nW).map (hfV rs nR k) from by
            refine List.map_congr_left fun p hp => ?_
            unfold hfV
            by_cases e : p = k
            · subst e; rw [if_pos (by omega), if_neg (by omega)]; unfold rfV; rw [if_pos h1, h1]
            · by_cases h : p < k
              · rw [if_pos h, if_pos (by omega)]
              · rw [if_neg h, if_neg (by omega)])
          rw [h1] at hcell
          clear h1
          go_wp2_with fail
          go_roundw
          case rel => exact ⟨k + 1, cur, by omega, by go_num, HBK.out, HBE.out, HS, Lib.hid (by rw [HSm.out]; exact HT.out)⟩
          case measure => simp [intOf]; omega
        · have hge : 0 ≤ (i : Int) := by omega
          have hiI : (i : Int) < (nR : Int) := by omega
          obtain ⟨ad, rfl, _, _, d1, _⟩ := HCR.out wr (to_ HB0.out HBE.out) i hi
          have HD1 := Lib.hid (show ∀ W, Below w.heap.size w W → W.cell? ⟨(ad.add (i * 3)).block, (ad.add (i * 3)).off + 1, none⟩ = some (.int .i64 (rlAt rs i).2.1) from fun W hb => by
            obtain ⟨a9, e9, _, _, d9, _⟩ := HCR.out W hb i hi
            injection e9 with e9; subst e9; exact d9)
          have HSm := Lib.hid (show ints ((List.range nW).map (hfV rs nR (k + 1))) = (ints ((List.range nW).map (hfV rs nR k))).set k (.int .i64 (rlAt rs i).2.1) from by
            unfold ints
            apply List.ext_getElem?
            intro p
            by_cases hp : p < nW
            · by_cases e : k = p
              · subst e
                rw [List.getElem?_set]
                first
                  | (simp [hp, hfV, rfV, h2]; done)
                  | (simp [hp, hfV, rfV, h2]; omega)
              · rw [List.getElem?_set_ne e, List.getElem?_map, List.getElem?_map, List.getElem?_map, List.getElem?_map, List.getElem?_range hp]
                simp only [Option.map_some]
                unfold hfV
                by_cases h : p < k
                · rw [if_pos h, if_pos (by omega)]
                · rw [if_neg h, if_neg (by omega)]
            · rw [List.getElem?_eq_none (by simp; omega), List.getElem?_eq_none (by simp; omega)])
          generalize (rlAt rs i).2.1 = x at d1 HSm HD1
          rw [h2] at hcell
          clear h2 hi
          have HBKD := Lib.hid (HBK.out.below (drew_below wr) HBK.out.lt)
          have HBED := Lib.hid (to_ HBE.out (drew_below wr))
          have hfrd : wr.drew.frozen? ⟨g, k, none⟩ = false := HBKD.out.frozen k
          have hcd : wr.drew.cell? ⟨g, k, none⟩ = some (.int .i64 (i : Int)) := hcell
          go_wp2_with fail
          refine wp_region_noPanic ?_
          refine wp_region_held_drew (S := fun W => W.cell? ⟨w.heap.size, 2, none⟩ = some (.slice (some ad) nR cR) ∧ W.cell? ⟨(ad.add (i * 3)).block, (ad.add (i * 3)).off + 1, none⟩ = some (.int .i64 x)) (by kernel_rfl) (⟨c2, d1⟩) (fun hHeld => ?_)
          refine wpAnyH_take (i := 0) rfl (by kernel_rfl) (by kernel_rfl) (by kernel_rfl) (fun _ _ _ h => h) (Or.inl ⟨by rfl, by intro W hSW; (try dsimp only at hSW); go_simp; try (with_reducible rfl)⟩) hHeld ?_
          try simp only [Act.put, List.getElem_toArray, List.getElem_cons_zero, List.getElem_cons_succ, List.setIfInBounds_toArray, List.set_cons_zero, List.set_cons_succ]
          refine wpAnyH_take (i := 1) rfl (by kernel_rfl) (by kernel_rfl) (by kernel_rfl) (fun _ _ _ h => h) (Or.inl ⟨by rfl, by intro W hSW; (try dsimp only at hSW); go_simp; try (with_reducible rfl)⟩) hHeld ?_
          try simp only [Act.put, List.getElem_toArray, List.getElem_cons_zero, List.getElem_cons_succ, List.setIfInBounds_toArray, List.set_cons_zero, List.set_cons_succ]
          refine wpAnyH_take (i := 2) rfl (by kernel_rfl) (by kernel_rfl) (by kernel_rfl) (fun _ _ _ h => h) (Or.inl ⟨by rfl, by intro W hSW; (try dsimp only at hSW); go_simp; try (with_reducible rfl)⟩) hHeld ?_
          try simp only [Act.put, List.getElem_toArray, List.getElem_cons_zero, List.getElem_cons_succ, List.setIfInBounds_toArray, List.set_cons_zero, List.set_cons_succ]
          refine wpAnyH_take (i := 4) rfl (by kernel_rfl) (by kernel_rfl) (by kernel_rfl) (fun _ _ _ h => h) (Or.inl ⟨by rfl, by intro W hSW; (try dsimp only at hSW); go_simp; try (with_reducible rfl)⟩) hHeld ?_
          try simp only [Act.put, List.getElem_toArray, List.getElem_cons_zero, List.getElem_cons_succ, List.setIfInBounds_toArray, List.set_cons_zero, List.set_cons_succ]
          refine wpAnyH_take (i := 5) rfl (by kernel_rfl) (by kernel_rfl) (by kernel_rfl) (fun _ _ _ h => h) (Or.inl ⟨by rfl, by intro W hSW; (try dsimp only at hSW); go_simp; try (with_reducible rfl)⟩) hHeld ?_
          try simp only [Act.put, List.getElem_toArray, List.getElem_cons_zero, List.getElem_cons_succ, List.setIfInBounds_toArray, List.set_cons_zero, List.set_cons_succ]
          refine wpAnyH_take (i := 3) rfl (by kernel_rfl) (by kernel_rfl) (by kernel_rfl) (fun _ _ _ h => h) (Or.inl ⟨by rfl, by intro W hSW; (try dsimp only at hSW); go_simp; try (with_reducible rfl)⟩) hHeld ?_
          try simp only [Act.put, List.getElem_toArray, List.getElem_cons_zero, List.getElem_cons_succ, List.setIfInBounds_toArray, List.set_cons_zero, List.set_cons_succ]
          refine wpAnyH_take (i := 6) rfl (by kernel_rfl) (by kernel_rfl) (by kernel_rfl) (fun _ _ _ h => h) (Or.inl ⟨by rfl, by intro W hSW; (try dsimp only at hSW); go_simp; try (with_reducible rfl)⟩) hHeld ?_
          try simp only [Act.put, List.getElem_toArray, List.getElem_cons_zero, List.getElem_cons_succ, List.setIfInBounds_toArray, List.set_cons_zero, List.set_cons_succ]
          refine wpAnyH_ready (rs := [7]) (by kernel_rfl) (by simp) ?_
          refine AllReadyH.cons rfl (fun K hK => ?_) AllReadyH.nil
          go_simp
          refine hK.out _ _ hHeld ?_
          clear hK K hHeld
          intro hHeld
          try simp only [Act.put, List.getElem_toArray, List.getElem_cons_zero, List.getElem_cons_succ, List.setIfInBounds_toArray, List.set_cons_zero, List.set_cons_succ]
          refine wpAnyH_take (i := 8) rfl (by kernel_rfl) (by kernel_rfl) (by kernel_rfl) (fun _ _ _ h => h) (Or.inl ⟨by rfl, by intro W hSW; (try dsimp only at hSW); go_simp; try (with_reducible rfl)⟩) hHeld ?_
          try simp only [Act.put, List.getElem_toArray, List.getElem_cons_zero, List.getElem_cons_succ, List.setIfInBounds_toArray, List.set_cons_zero, List.set_cons_succ]
          refine wpAnyH_take (i := 9) rfl (by kernel_rfl) (by kernel_rfl) (by kernel_rfl) (fun _ _ _ h => h) (Or.inl ⟨by rfl, by intro W hSW; (try dsimp only at hSW); go_simp; try (with_reducible rfl)⟩) hHeld ?_
          try simp only [Act.put, List.getElem_toArray, List.getElem_cons_zero, List.getElem_cons_succ, List.setIfInBounds_toArray, List.set_cons_zero, List.set_cons_succ]
          refine wpAnyH_take (i := 10) rfl (by kernel_rfl) (by kernel_rfl) (by kernel_rfl) (fun _ _ _ h => h) (Or.inl ⟨by rfl, by intro W hSW; (try dsimp only at hSW); go_simp; try (with_reducible rfl)⟩) hHeld ?_
          try simp only [Act.put, List.getElem_toArray, List.getElem_cons_zero, List.getElem_cons_succ, List.setIfInBounds_toArray, List.set_cons_zero, List.set_cons_succ]
          refine wpAnyH_take (i := 11) rfl (by kernel_rfl) (by kernel_rfl) (by kernel_rfl) (fun _ _ _ h => h) (Or.inl ⟨by rfl, by intro W hSW; (try dsimp only at hSW); go_simp; try (with_reducible rfl)⟩) hHeld ?_
          try simp only [Act.put, List.getElem_toArray, List.getElem_cons_zero, List.getElem_cons_succ, List.setIfInBounds_toArray, List.set_cons_zero, List.set_cons_succ]
          refine wpAnyH_ready (rs := [12]) (by kernel_rfl) (by simp) ?_
          refine AllReadyH.cons rfl (fun K hK => ?_) AllReadyH.nil
          go_simp
          refine hK.out _ _ ⟨(blk3 (HX.out _ (HBED.out.setCell (p := ⟨g, k, none⟩) HG1.out _))).2.2, HD1.out _ (to_ HB0.out (HBED.out.setCell (p := ⟨g, k, none⟩) HG1.out _))⟩ ?_
          clear hK K hHeld
          intro hHeld
          try simp only [Act.put, List.getElem_toArray, List.getElem_cons_zero, List.getElem_cons_succ, List.setIfInBounds_toArray, List.set_cons_zero, List.set_cons_succ]
          refine wpAnyH_done (by kernel_rfl) ?_ _
          refine NoPanic.normal ?_
          go_wp2_with fail
          go_roundw
          case rel =>
            refine ⟨k + 1, cur.setIfInBounds k (.int .i64 x), by omega, by go_num, HBKD.out.stored k _, HBED.out.setCell (p := ⟨g, k, none⟩) HG1.out _, Lib.hid (by rw [Array.size_setIfInBounds]; exact HS.out), Lib.hid ?_⟩
            rw [Array.toList_setIfInBounds, take_set, HT.out, HSm.out]
          case measure => simp [intOf]; omega
      · obtain rfl : k = nW := by omega
        go_wp2_with fail
        go_ret
        refine ⟨_, _, rfl, ?_, to_ HB0.out HBE.out⟩
        have h9 : (List.range k).map (hfV rs nR k) = rfL rs nR k := by
          unfold rfL
          refine List.map_congr_left fun p hp => ?_
          unfold hfV; rw [if_pos (List.mem_range.1 hp)]
        have hT := HT.out
        rw [h9] at hT
        refine SlV.of_own (w := wr) (base := W1.heap.size) (e := 3) ⟨by simp [ints, rfL], .inr ⟨g, cp, cur, rfl, HG1.out, HBK.out, HCC.out.1, HCC.out.2, by rw [Nat.mul_one]; exact HS.out, by rw [Nat.mul_one]; exact hT⟩⟩
end Go.Proofs.YthkbdclnnpcoiaaDoor.By
