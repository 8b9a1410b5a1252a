/-
  WALK: the document's own far.
-/
import Derived.Test.YtfgnlemoodfgoaaGr
import Derived.Test.YtfgnlemoodfgoaaGk
namespace Go.Proofs.Ytfgnlemoodfgoaa.By
open Go.RowKit
open Mem Gm Rf

def di (n : Nat) (d : Nat → Int) : Array Value := ((List.range n).map fun i => Value.int .i64 (d i)).toArray
theorem di_at {n i : Nat} (d : Nat → Int) (hi : i < n) : (di n d)[i]? = some (.int .i64 (d i)) := by simp [di, hi]
def setI (d : Nat → Int) (a : Nat) (x : Int) : Nat → Int := fun i => if i = a then x else d i
theorem di_set {n a : Nat} (d : Nat → Int) (x : Int) : (di n d).setIfInBounds a (.int .i64 x) = di n (setI d a x) := by
  apply Array.ext
  · simp [di]
  · intro i h1 h2
    have hi : i < n := by simpa [di] using h2
    rw [Array.getElem_setIfInBounds (by simpa [di] using hi)]
    by_cases e : a = i
    · subst e; simp [di, setI]
    · rw [if_neg e]
      simp [di, setI, Ne.symm e]
theorem di_nil (n : Nat) : di n (fun _ => 0) = Array.replicate n (.int .i64 0) := by
  apply Array.ext
  · simp [di]
  · intro i h1 h2; simp [di]

def midV (g : List (List Int)) (b n a j : Nat) : Int := if 0 ≤ dAt g b n a then dAt g b n a else if (List.range j).any (fun u => E g a u && dAt g b n u == (n : Int)) then (n : Int) + 1 else -1
theorem dAt_neg {g : List (List Int)} {b : Nat} (hb : b < g.length) {n v : Nat} (h : dAt g b n v < 0) : dAt g b n v = -1 := by
  rcases dAt_spec g b hb n v with ⟨j, _, _, _, h3⟩ | ⟨_, h3⟩
  · omega
  · exact h3
theorem dAt_same {g : List (List Int)} {b n v : Nat} : dAt g b (n + 1) v = (n : Int) ↔ dAt g b n v = (n : Int) := by
  rw [dAt]
  by_cases h : 0 ≤ dAt g b n v
  · rw [if_pos h]
  · rw [if_neg h]
    constructor
    · intro e; split at e <;> omega
    · intro e; omega

/-- How far the document's rounds have come. -/
def FSt (g : List (List Int)) (b n a j : Nat) (d : Nat → Int) : Prop := ∀ v, v < g.length → d v = if v < a then dAt g b (n + 1) v else if v = a then midV g b n a j else dAt g b n v

theorem midV_zero {g : List (List Int)} {b : Nat} (hb : b < g.length) (n a : Nat) : midV g b n a 0 = dAt g b n a := by
  unfold midV
  by_cases h : 0 ≤ dAt g b n a
  · rw [if_pos h]
  · rw [if_neg h, dAt_neg hb (by omega)]; simp
theorem midV_all (g : List (List Int)) (b n a : Nat) : midV g b n a g.length = dAt g b (n + 1) a := by rw [dAt]; rfl
theorem midV_next (g : List (List Int)) (b n a j : Nat) : midV g b n a (j + 1) = if 0 ≤ midV g b n a j then midV g b n a j else if E g a j = true ∧ dAt g b n j = (n : Int) then (n : Int) + 1 else -1 := by
  unfold midV
  by_cases h : 0 ≤ dAt g b n a
  · simp [h]
  · rw [if_neg h, if_neg h, List.range_succ, List.any_append]
    by_cases h2 : (List.range j).any (fun u => E g a u && dAt g b n u == (n : Int)) = true
    · simp only [h2, Bool.true_or, if_true]
      rw [if_pos (show (0 : Int) ≤ (n : Int) + 1 by omega)]
    · have h2' : (List.range j).any (fun u => E g a u && dAt g b n u == (n : Int)) = false := by simpa using h2
      simp only [h2', Bool.false_or, Bool.false_eq_true, if_false]
      rw [if_neg (show ¬ (0 : Int) ≤ -1 by omega)]
      simp

theorem FSt.val {g : List (List Int)} {b n a j : Nat} {d : Nat → Int} (h : FSt g b n a j d) (ha : a < g.length) : d a = midV g b n a j := by
  have := h a ha
  rw [this, if_neg (by omega), if_pos rfl]
theorem FSt.same {g : List (List Int)} {b n a j : Nat} {d : Nat → Int} (h : FSt g b n a j d) (ha : a < g.length) (hd : d a < 0) {u : Nat} (hu : u < g.length) : d u = (n : Int) ↔ dAt g b n u = (n : Int) := by
  rw [h u hu]
  by_cases h1 : u < a
  · rw [if_pos h1, dAt_same]
  · rw [if_neg h1]
    by_cases h2 : u = a
    · subst h2
      rw [if_pos rfl]
      rw [h.val ha] at hd
      have : dAt g b n u < 0 := by
        unfold midV at hd
        by_cases h3 : 0 ≤ dAt g b n u
        · rw [if_pos h3] at hd; exact hd
        · omega
      constructor <;> intro e <;> omega
    · rw [if_neg h2]

theorem FSt.skip {g : List (List Int)} {b n a j : Nat} {d : Nat → Int} (h : FSt g b n a j d) (ha : a < g.length) (hj : j < g.length) (hs : 0 ≤ d a ∨ (d a < 0 ∧ (d j ≠ (n : Int) ∨ E g a j = false))) : FSt g b n a (j + 1) d := by
  intro v hv
  rw [h v hv]
  by_cases h1 : v < a
  · rw [if_pos h1, if_pos h1]
  · rw [if_neg h1, if_neg h1]
    by_cases h2 : v = a
    · subst h2
      rw [if_pos rfl, if_pos rfl, midV_next, ← h.val ha]
      rcases hs with hs | ⟨hs, hs2⟩
      · rw [if_pos hs]
      · rw [if_neg (by omega), if_neg]
        · rw [h.val ha] at hs ⊢
          unfold midV at hs ⊢
          by_cases h3 : 0 ≤ dAt g b n v
          · rw [if_pos h3] at hs; omega
          · rw [if_neg h3] at hs ⊢
            split at hs
            · omega
            · rename_i h4; rw [if_neg h4]
        · rintro ⟨h3, h4⟩
          rcases hs2 with hs2 | hs2
          · exact hs2 ((h.same ha hs hj).2 h4)
          · rw [hs2] at h3; cases h3
    · rw [if_neg h2, if_neg h2]
theorem FSt.put {g : List (List Int)} {b n a j : Nat} {d : Nat → Int} (h : FSt g b n a j d) (ha : a < g.length) (hj : j < g.length) (hd : d a < 0) (hdj : d j = (n : Int)) (hE : E g a j = true) : FSt g b n a (j + 1) (setI d a ((n : Int) + 1)) := by
  intro v hv
  unfold setI
  by_cases h2 : v = a
  · subst h2
    rw [if_pos rfl, if_neg (by omega), if_pos rfl, midV_next, ← h.val ha, if_neg (by omega), if_pos ⟨hE, (h.same ha hd hj).1 hdj⟩]
  · rw [if_neg h2, h v hv, if_neg h2, if_neg h2]
theorem FSt.nextA {g : List (List Int)} {b n a j : Nat} {d : Nat → Int} (h : FSt g b n a j d) (hb : b < g.length) (hj : j = g.length) : FSt g b n (a + 1) 0 d := by
  intro v hv
  rw [h v hv]
  by_cases h1 : v < a
  · rw [if_pos h1, if_pos (by omega)]
  · rw [if_neg h1]
    by_cases h2 : v = a
    · subst h2; rw [if_pos rfl, if_pos (by omega), hj, midV_all]
    · rw [if_neg h2, if_neg (by omega)]
      by_cases h3 : v = a + 1
      · subst h3; rw [if_pos rfl, midV_zero hb]
      · rw [if_neg h3]
theorem FSt.nextN {g : List (List Int)} {b n a : Nat} {d : Nat → Int} (h : FSt g b n a 0 d) (hb : b < g.length) (ha : a = g.length) : FSt g b (n + 1) 0 0 d := by
  intro v hv
  rw [h v hv, if_pos (by omega), if_neg (by omega)]
  by_cases h3 : v = 0
  · subst h3; rw [if_pos rfl, midV_zero hb]
  · rw [if_neg h3]
theorem FSt.start {g : List (List Int)} {b : Nat} (hb : b < g.length) {d : Nat → Int} (h : ∀ v, v < g.length → d v = if v = b then 0 else -1) : FSt g b 0 0 0 d := by
  intro v hv
  have e : (if v < 0 then dAt g b (0 + 1) v else if v = 0 then midV g b 0 0 0 else dAt g b 0 v) = dAt g b 0 v := by
    rw [if_neg (by omega : ¬ v < 0)]
    split
    · rename_i h3; subst h3; exact midV_zero hb 0 0
    · rfl
  rw [h v hv, e]; rfl
theorem FSt.final {g : List (List Int)} {b n : Nat} {d : Nat → Int} (h : FSt g b n 0 0 d) (hb : b < g.length) : ∀ v, v < g.length → d v = dAt g b n v := by
  intro v hv
  rw [h v hv, if_neg (by omega)]
  by_cases h3 : v = 0
  · subst h3; rw [if_pos rfl, midV_zero hb]
  · rw [if_neg h3]
theorem di_congr {n : Nat} {d d' : Nat → Int} (h : ∀ v, v < n → d v = d' v) : di n d = di n d' := by
  unfold di
  congr 1
  exact List.map_congr_left fun i hi => by rw [h i (List.mem_range.1 hi)]

/-- What far answers. -/
def FarAns (g : List (List Int)) (b N : Nat) (w : World) (e : Ending) (w' : World) : Prop := e = .returned (.slice (some ⟨w.heap.size, 0, none⟩) N N) ∧ Blk w' w.heap.size 3 (di N (dAt g b N)) ∧ Below w.heap.size w w'

set_option maxHeartbeats 4000000 in
theorem far_any (w : World) (A : Option Addr) (c N b : Nat) (g : List (List Int)) (hN : g.length = N) (h : Gr w w.heap.size (.slice A N c) g) (hl : N ≤ 1000) (hb : b < N) :
    Calls Try.prog 23 #[.slice A N c, .int .i64 (b : Int)] w (FarAns g b N w) := by
  have HGG := Lib.hid h
  have hmk := make_ints N hl
  have HN := Lib.hid hN
  have HB := Lib.hid (show b < g.length by omega)
  have hbI : (b : Int) < (N : Int) := by omega
  clear h hN
  go_enter Try.func23, Try.ntmps23
  go_wp2_with fail
  have HS0 := Lib.hid (show (Blk (w.alloc (.cells (Array.replicate N (.int .i64 0)) 3)) w.heap.size 3 (di N fun _ => 0)) ∧ Below w.heap.size w (w.alloc (.cells (Array.replicate N (.int .i64 0)) 3)) from ⟨by rw [di_nil]; exact Blk.new _ _ _, (Below.refl _ w).alloc (Nat.le_refl _) _⟩)
  clear hmk
  go_loopw [6] (fun i wr => ∃ (k : Nat) (d : Nat → Int), k ≤ N ∧ i = .int .i64 k ∧ Hid (∀ v, v < k → d v = -1) ∧ Blk wr w.heap.size 3 (di N d) ∧ Below w.heap.size w wr) (fun i _ => N - (intOf i).toNat)
  case atStart => exact ⟨0, fun _ => 0, by omega, rfl, Lib.hid (fun v hv => by omega), HS0.out.1, HS0.out.2⟩
  case round =>
    obtain ⟨k, d, hk, rfl, HO, hT, hB⟩ := hrel
    by_cases hlt : k < N
    · have ct : wr.cell? ⟨w.heap.size, k, none⟩ = some (.int .i64 (d k)) := by rw [hT.cell, di_at _ hlt]
      have cf : wr.frozen? ⟨w.heap.size, k, none⟩ = false := hT.frozen k
      have HO2 := Lib.hid (show ∀ v, v < k + 1 → setI d k (-1) v = -1 from fun v hv => by
        unfold setI
        by_cases e : v = k
        · rw [if_pos e]
        · rw [if_neg e]; exact HO.out v (by omega))
      have HT2 := Lib.hid (show Blk (wr.setCell ⟨w.heap.size, k, none⟩ (.int .i64 (-1))) w.heap.size 3 (di N (setI d k (-1))) by rw [← di_set]; exact hT.stored _ _)
      have HB2 := Lib.hid (hB.setCell (p := ⟨w.heap.size, k, none⟩) (Nat.le_refl _) (.int .i64 (-1)))
      clear HO hT hB
      go_wp2_with fail
      go_roundw
      case rel => exact ⟨k + 1, setI d k (-1), by omega, by go_num, HO2, HT2.out, HB2.out⟩
      case measure => simp [intOf]; omega
    · obtain rfl : k = N := by omega
      have ct : wr.cell? ⟨w.heap.size, b, none⟩ = some (.int .i64 (d b)) := by rw [hT.cell, di_at _ hb]
      have cf : wr.frozen? ⟨w.heap.size, b, none⟩ = false := hT.frozen b
      have HST := Lib.hid (FSt.start (g := g) (d := setI d b 0) HB.out fun v hv => by
        unfold setI
        by_cases e : v = b
        · rw [if_pos e, if_pos e]
        · rw [if_neg e, if_neg e]; exact HO.out v (by rw [← HN.out]; exact hv))
      have HT0 := Lib.hid (show Blk (wr.setCell ⟨w.heap.size, b, none⟩ (.int .i64 0)) w.heap.size 3 (di k (setI d b 0)) by rw [← di_set]; exact hT.stored _ _)
      have HB0 := Lib.hid (hB.setCell (p := ⟨w.heap.size, b, none⟩) (Nat.le_refl _) (.int .i64 0))
      clear HO hT hB
      go_wp2_with fail
      go_loopw [7] (fun i wr => ∃ (n : Nat) (d : Nat → Int), n ≤ k ∧ i = .int .i64 n ∧ Hid (FSt g b n 0 0 d) ∧ Blk wr w.heap.size 3 (di k d) ∧ Below w.heap.size w wr) (fun i _ => k - (intOf i).toNat)
      case atStart => exact ⟨0, setI d b 0, by omega, rfl, HST, HT0.out, HB0.out⟩
      case round =>
        obtain ⟨n, d, hn, rfl, HR, hT, hB⟩ := hrel
        by_cases hnl : n < k
        · have HT := Lib.hid hT
          have HBB := Lib.hid hB
          clear hT hB
          go_wp2_with fail
          obtain ⟨wo, hwo⟩ : ∃ wo, wo = wr := ⟨_, rfl⟩
          subst hwo
          go_loopw [8] (fun i wr => ∃ (a : Nat) (d : Nat → Int), a ≤ k ∧ i = .int .i64 a ∧ Hid (FSt g b n a 0 d) ∧ Blk wr w.heap.size 3 (di k d) ∧ Below w.heap.size w wr) (fun i _ => k - (intOf i).toNat)
          case atStart => exact ⟨0, d, by omega, rfl, HR, HT.out, HBB.out⟩
          case round =>
            obtain ⟨a, d, ha, rfl, HR, hT, hB⟩ := hrel
            by_cases hal : a < k
            · have HT := Lib.hid hT
              have HBB := Lib.hid hB
              clear hT hB
              go_wp2_with fail
              obtain ⟨wp, hwp⟩ : ∃ wp, wp = wr := ⟨_, rfl⟩
              subst hwp
              go_loopw [9] (fun i wr => ∃ (j : Nat) (d : Nat → Int), j ≤ k ∧ i = .int .i64 j ∧ Hid (FSt g b n a j d) ∧ Blk wr w.heap.size 3 (di k d) ∧ Below w.heap.size w wr) (fun i _ => k - (intOf i).toNat)
              case atStart => exact ⟨0, d, by omega, rfl, HR, HT.out, HBB.out⟩
              case round =>
                obtain ⟨j, d, hj, rfl, HR, hT, hB⟩ := hrel
                by_cases hjl : j < k
                · obtain ⟨x, hx⟩ : ∃ x, d a = x := ⟨_, rfl⟩
                  obtain ⟨y, hy⟩ : ∃ y, d j = y := ⟨_, rfl⟩
                  obtain ⟨bl, hbl⟩ : ∃ bl, E g a j = bl := ⟨_, rfl⟩
                  have ca : wr.cell? ⟨w.heap.size, a, none⟩ = some (.int .i64 x) := by rw [hT.cell, di_at _ hal, hx]
                  have cj : wr.cell? ⟨w.heap.size, j, none⟩ = some (.int .i64 y) := by rw [hT.cell, di_at _ hjl, hy]
                  have cf : wr.frozen? ⟨w.heap.size, a, none⟩ = false := hT.frozen a
                  have haG : a < g.length := by rw [HN.out]; exact hal
                  have hjG : j < g.length := by rw [HN.out]; exact hjl
                  have HE := Lib.hid (show Calls Try.prog 18 #[.slice A k c, .int .i64 (a : Int), .int .i64 (j : Int)] wr fun e w' => e = .returned (.bool bl) ∧ wr = w' by
                    have h1 := HGG.out.below hB
                    rw [← HN.out] at h1 ⊢
                    have := edge_any wr w.heap.size A c g h1 a j haG hjG
                    rwa [hbl] at this)
                  by_cases h1 : x < 0
                  · by_cases h2 : y = (n : Int)
                    · have h2' : (y == (n : Int)) = true := by simpa using h2
                      cases bl with
                      | true =>
                        have HRN := Lib.hid (HR.out.put haG hjG (by rw [hx]; exact h1) (by rw [hy]; exact h2) hbl)
                        have HT2 := Lib.hid (show Blk (wr.setCell ⟨w.heap.size, a, none⟩ (.int .i64 ((n : Int) + 1))) w.heap.size 3 (di k (setI d a ((n : Int) + 1))) by rw [← di_set]; exact hT.stored _ _)
                        have HB2 := Lib.hid (hB.setCell (p := ⟨w.heap.size, a, none⟩) (Nat.le_refl _) (.int .i64 ((n : Int) + 1)))
                        clear hx hy h2 hT hB hbl
                        go_wp2_with (go_at_call 18; refine HE.out.mono ?_; rintro e w2 ⟨rfl, rfl⟩)
                        go_roundw
                        case rel => exact ⟨j + 1, setI d a ((n : Int) + 1), by omega, by go_num, HRN, HT2.out, HB2.out⟩
                        case measure => simp [intOf]; omega
                      | false =>
                        have HRN := Lib.hid (HR.out.skip haG hjG (.inr ⟨by rw [hx]; exact h1, .inr hbl⟩))
                        have HT2 := Lib.hid hT
                        have HB2 := Lib.hid hB
                        clear hx hy h2 hT hB hbl
                        go_wp2_with (go_at_call 18; refine HE.out.mono ?_; rintro e w2 ⟨rfl, rfl⟩)
                        go_roundw
                        case rel => exact ⟨j + 1, d, by omega, by go_num, HRN, HT2.out, HB2.out⟩
                        case measure => simp [intOf]; omega
                    · have h2' : (y == (n : Int)) = false := by simpa using h2
                      have HRN := Lib.hid (HR.out.skip haG hjG (.inr ⟨by rw [hx]; exact h1, .inl (by rw [hy]; exact h2)⟩))
                      have HT2 := Lib.hid hT
                      have HB2 := Lib.hid hB
                      clear hx hy h2 hT hB hbl
                      go_wp2_with fail
                      go_roundw
                      case rel => exact ⟨j + 1, d, by omega, by go_num, HRN, HT2.out, HB2.out⟩
                      case measure => simp [intOf]; omega
                  · have HRN := Lib.hid (HR.out.skip haG hjG (.inl (by rw [hx]; omega)))
                    have HT2 := Lib.hid hT
                    have HB2 := Lib.hid hB
                    clear hx hy hT hB hbl
                    go_wp2_with fail
                    go_roundw
                    case rel => exact ⟨j + 1, d, by omega, by go_num, HRN, HT2.out, HB2.out⟩
                    case measure => simp [intOf]; omega
                · have HRN := Lib.hid (HR.out.nextA HB.out (by rw [HN.out]; omega))
                  have HT2 := Lib.hid hT
                  have HB2 := Lib.hid hB
                  clear hT hB
                  go_wp2_with fail
                  go_roundw
                  case rel => exact ⟨a + 1, d, by omega, by go_num, HRN, HT2.out, HB2.out⟩
                  case measure => simp [intOf]; omega
            · have HRN := Lib.hid (HR.out.nextN HB.out (by rw [HN.out]; omega))
              have HT2 := Lib.hid hT
              have HB2 := Lib.hid hB
              clear hT hB
              go_wp2_with fail
              go_roundw
              case rel => exact ⟨n + 1, d, by omega, by go_num, HRN, HT2.out, HB2.out⟩
              case measure => simp [intOf]; omega
        · obtain rfl : n = k := by omega
          have HFIN := Lib.hid (show di n d = di n (dAt g b n) from di_congr fun v hv => HR.out.final HB.out v (by rw [HN.out]; exact hv))
          rw [HFIN.out] at hT
          have HT2 := Lib.hid hT
          have HB2 := Lib.hid hB
          clear hT hB
          go_wp2_with fail
          go_ret
          exact ⟨rfl, HT2.out, HB2.out⟩
end Go.Proofs.Ytfgnlemoodfgoaa.By
