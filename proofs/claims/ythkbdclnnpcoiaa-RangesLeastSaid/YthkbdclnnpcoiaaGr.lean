/-
  WALK: the document's own Reach.
-/
import Derived.Test.YthkbdclnnpcoiaaGp
import Derived.Test.YthkbdclnnpcoiaaGi
namespace Go.Proofs.Ythkbdclnnpcoiaa.By
open Go.RowKit
open Mem Gm Rf

def bo (n : Nat) (o : Nat → Bool) : Array Value := ((List.range n).map fun i => Value.bool (o i)).toArray
theorem bo_at {n i : Nat} (o : Nat → Bool) (hi : i < n) : (bo n o)[i]? = some (.bool (o i)) := by simp [bo, hi]
def upd (o : Nat → Bool) (a : Nat) : Nat → Bool := fun i => o i || i == a
theorem bo_set {n a : Nat} (o : Nat → Bool) : (bo n o).setIfInBounds a (.bool true) = bo n (upd o a) := by
  apply Array.ext
  · simp [bo]
  · intro i h1 h2
    have hi : i < n := by simpa [bo] using h2
    rw [Array.getElem_setIfInBounds (by simpa [bo] using hi)]
    by_cases e : a = i
    · subst e; simp [bo, upd]
    · rw [if_neg e]
      simp [bo, upd, Ne.symm e]
theorem bo_nil (n : Nat) : bo n (fun _ => false) = Array.replicate n (.bool false) := by
  apply Array.ext
  · simp [bo]
  · intro i h1 h2; simp [bo]

/-- How far the document's rounds have come. -/
def RSt (g : List (List Int)) (fs : List Int) (r a i : Nat) (o : Nat → Bool) : Prop :=
  (∀ v, v < g.length → o v = true → reach g fs v = true) ∧ (∀ v t, Walk g (fun a => (a : Int) ∈ fs) (v :: t) → t.length ≤ r → o v = true) ∧
  (∀ a' t v, a' < a → Walk g (fun a => (a : Int) ∈ fs) (a' :: t) → t.length ≤ r → E g a' v = true → o v = true) ∧
  (∀ t i', i' < i → Walk g (fun a => (a : Int) ∈ fs) (a :: t) → t.length ≤ r → isP g (el (rowOf g a) i') = true → o (el (rowOf g a) i').toNat = true)

theorem RSt.start {g : List (List Int)} {fs : List Int} {o : Nat → Bool} (h : ∀ v, v < g.length → (o v = true ↔ (v : Int) ∈ fs)) : RSt g fs 0 0 0 o := by
  refine ⟨fun v hv ho => (reach_iff _ _ _).2 ⟨[], .one v hv ((h v hv).1 ho)⟩, fun v t hw ht => ?_, fun _ _ _ h => absurd h (by omega), fun _ _ h => absurd h (by omega)⟩
  have : t = [] := List.eq_nil_of_length_eq_zero (by omega)
  subst this
  cases hw with
  | one _ hv hS => exact (h v hv).2 hS

theorem RSt.skip {g : List (List Int)} {fs : List Int} {r a i : Nat} {o : Nat → Bool} (h : RSt g fs r a i o) (hp : isP g (el (rowOf g a) i) = false) : RSt g fs r a (i + 1) o := by
  obtain ⟨h1, h2, h3, h4⟩ := h
  refine ⟨h1, h2, h3, fun t i' hi hw ht hi' => ?_⟩
  by_cases e : i' = i
  · subst e; rw [hp] at hi'; cases hi'
  · exact h4 t i' (by omega) hw ht hi'

theorem RSt.put {g : List (List Int)} {fs : List Int} {r a i y : Nat} {o : Nat → Bool} (h : RSt g fs r a i o) (ha : a < g.length) (hi : i < (rowOf g a).length) (hoa : o a = true) (hy : el (rowOf g a) i = (y : Int)) (hyn : y < g.length) : RSt g fs r a (i + 1) (upd o y) := by
  obtain ⟨h1, h2, h3, h4⟩ := h
  have hE : E g a y = true := E_iff.2 ⟨ha, hyn, by
    show (y : Int) ∈ rowOf g a
    rw [← hy, ← el_at hi]; exact List.getElem_mem _⟩
  have mon : ∀ v, o v = true → upd o y v = true := fun v hv => by simp [upd, hv]
  refine ⟨fun v hv ho => ?_, fun v t hw ht => mon _ (h2 v t hw ht), fun a' t v ha' hw ht he => mon _ (h3 a' t v ha' hw ht he), fun t i' hi' hw ht hp => ?_⟩
  · simp only [upd, Bool.or_eq_true, beq_iff_eq] at ho
    rcases ho with ho | rfl
    · exact h1 v hv ho
    · obtain ⟨t, ht⟩ := (reach_iff _ _ _).1 (h1 a ha hoa)
      exact (reach_iff _ _ _).2 ⟨a :: t, .on a v t ht hE⟩
  · by_cases e : i' = i
    · subst e; rw [hy]; simp [upd]
    · exact mon _ (h4 t i' (by omega) hw ht hp)

theorem RSt.nextA {g : List (List Int)} {fs : List Int} {r a i : Nat} {o : Nat → Bool} (h : RSt g fs r a i o) (he : o a = false ∨ i = (rowOf g a).length) : RSt g fs r (a + 1) 0 o := by
  obtain ⟨h1, h2, h3, h4⟩ := h
  refine ⟨h1, h2, fun a' t v ha' hw ht hE => ?_, fun _ _ h => absurd h (by omega)⟩
  by_cases e : a' = a
  · subst e
    rcases he with he | he
    · rw [h2 a' t hw ht] at he; cases he
    · obtain ⟨ha, hv, hm⟩ := E_iff.1 hE
      obtain ⟨j, hj, hjv⟩ := List.getElem_of_mem (show (v : Int) ∈ rowOf g a' from hm)
      have hel : el (rowOf g a') j = (v : Int) := by rw [← el_at hj]; exact hjv
      have := h4 t j (by omega) hw ht (by rw [hel]; exact isP_iff.2 ⟨by omega, by omega⟩)
      rwa [hel, Int.toNat_natCast] at this
  · exact h3 a' t v (by omega) hw ht hE

theorem RSt.nextR {g : List (List Int)} {fs : List Int} {r a : Nat} {o : Nat → Bool} (h : RSt g fs r a 0 o) (ha : a = g.length) : RSt g fs (r + 1) 0 0 o := by
  obtain ⟨h1, h2, h3, h4⟩ := h
  refine ⟨h1, fun v t hw ht => ?_, fun _ _ _ h => absurd h (by omega), fun _ _ h => absurd h (by omega)⟩
  cases hw with
  | one _ hv hS => exact h2 v [] (.one v hv hS) (by simp)
  | on u _ t' hw' he => exact h3 u t' v (by rw [ha]; exact hw'.head) hw' (by simpa using ht) he

theorem RSt.final {g : List (List Int)} {fs : List Int} {r : Nat} {o : Nat → Bool} (h : RSt g fs r 0 0 o) (hr : g.length ≤ r + 1) : ∀ v, v < g.length → o v = reach g fs v := by
  intro v hv
  rw [Bool.eq_iff_iff]
  refine ⟨h.1 v hv, fun hre => ?_⟩
  have hm : v ∈ (told g fs).map (·.1) := by simpa [reach] using hre
  obtain ⟨s, hs, rfl⟩ := List.mem_map.1 hm
  have hsh := told_short (v := s.1) (t := s.2) hs
  exact h.2.1 s.1 s.2 ((told_inv g fs).walk s hs).1 (by simp at hsh; omega)

theorem bo_reach {g : List (List Int)} {fs : List Int} {N : Nat} {o : Nat → Bool} (hN : g.length = N) (h : ∀ v, v < g.length → o v = reach g fs v) : (bo N o).toList = reachV g fs := by
  unfold bo reachV
  rw [hN]
  refine List.map_congr_left fun i hi => ?_
  rw [h i (by rw [hN]; exact List.mem_range.1 hi)]

/-- What Reach answers. -/
def ReachAns (g : List (List Int)) (fs : List Int) (w : World) (e : Ending) (w' : World) : Prop := ∃ A', e = .returned (.slice A' g.length g.length) ∧ SlV w' w'.heap.size (.slice A' g.length g.length) (reachV g fs) ∧ Below w.heap.size w w'

set_option maxHeartbeats 4000000 in
theorem rreach_any (w : World) (A A2 : Option Addr) (c c2 : Nat) (g : List (List Int)) (fs : List Int) (h : Gr w w.heap.size (.slice A g.length c) g) (hF : SlV w w.heap.size (.slice A2 fs.length c2) (ints fs)) (hl : g.length ≤ 1000) (hfl : fs.length ≤ 1000000) :
    Calls Try.prog 21 #[.slice A g.length c, .slice A2 fs.length c2] w (ReachAns g fs w) := by
  obtain ⟨N, hN⟩ : ∃ N, g.length = N := ⟨_, rfl⟩
  obtain ⟨M, hM⟩ : ∃ M, fs.length = M := ⟨_, rfl⟩
  rw [hN] at h
  have HC := Lib.hid (fun i (hi : i < N) => h.reads hN hi)
  have HF := Lib.hid (show ∀ j, j < M → ∃ ad, A2 = some ad ∧ ad.block < w.heap.size ∧ w.cell? (ad.add j) = some (.int .i64 (el fs j)) from fun j hj => by
    rcases ints_row hF with ⟨e, _⟩ | ⟨ad, e, hb, hc⟩
    · rw [e] at hM; simp at hM; omega
    · exact ⟨ad, e, hb, hc j (by omega)⟩)
  have hmk := make_bools N (hN ▸ hl)
  have HN := Lib.hid hN
  have HM := Lib.hid hM
  rw [hN] at hl ⊢
  rw [hM] at hfl ⊢
  have hblk : ∀ (p : Addr) (u : Value) (wr : World), Below w.heap.size w wr → w.cell? p = some u → wr.cell? p = some u := fun p u wr hb hc => (hb.cell (World.block_lt_of_cell? w _ hc)).trans hc
  have HBK := Lib.hid hblk
  clear h hF hN hM hblk
  go_enter Try.func21, Try.ntmps21
  go_wp2_with fail
  have HS0 := Lib.hid (show (Blk (w.alloc (.cells (Array.replicate N (.bool false)) 4)) w.heap.size 4 (bo N fun _ => false)) ∧ Below w.heap.size w (w.alloc (.cells (Array.replicate N (.bool false)) 4)) from ⟨by rw [bo_nil]; exact Blk.new _ _ _, (Below.refl _ w).alloc (Nat.le_refl _) _⟩)
  clear hmk
  go_loopw [6] (fun i wr => ∃ (k : Nat) (o : Nat → Bool), k ≤ M ∧ i = .int .i64 k ∧ Hid (∀ v, v < N → (o v = true ↔ ∃ j, j < k ∧ el fs j = (v : Int))) ∧ Blk wr w.heap.size 4 (bo N o) ∧ Below w.heap.size w wr) (fun i _ => M - (intOf i).toNat)
  case atStart => exact ⟨0, fun _ => false, by omega, rfl, Lib.hid (fun v hv => by simp), HS0.out.1, HS0.out.2⟩
  case round =>
    obtain ⟨k, o, hk, rfl, HO, hT, hB⟩ := hrel
    by_cases hlt : k < M
    · obtain ⟨ad, rfl, _, hc⟩ := HF.out k hlt
      have hc := HBK.out _ _ _ hB hc
      obtain ⟨x, hx⟩ : ∃ x, el fs k = x := ⟨_, rfl⟩
      rw [hx] at hc
      by_cases hp : 0 ≤ x ∧ x < (N : Int)
      · obtain ⟨y, rfl⟩ : ∃ y : Nat, x = (y : Int) := ⟨x.toNat, by omega⟩
        have hyN : y < N := by omega
        have ct : wr.cell? ⟨w.heap.size, y, none⟩ = some (.bool (o y)) := by rw [hT.cell, bo_at _ hyN]
        have cf : wr.frozen? ⟨w.heap.size, y, none⟩ = false := hT.frozen y
        obtain ⟨hp0, hp1⟩ := hp
        have HO2 := Lib.hid (show ∀ v, v < N → (upd o y v = true ↔ ∃ j, j < k + 1 ∧ el fs j = (v : Int)) from fun v hv => by
          simp only [upd, Bool.or_eq_true, beq_iff_eq, HO.out v hv]
          constructor
          · rintro (⟨j, hj, e⟩ | rfl)
            · exact ⟨j, by omega, e⟩
            · exact ⟨k, by omega, hx⟩
          · rintro ⟨j, hj, e⟩
            by_cases ej : j = k
            · right; subst ej; rw [hx] at e; omega
            · exact .inl ⟨j, by omega, e⟩)
        have HT2 := Lib.hid (show Blk (wr.setCell ⟨w.heap.size, y, none⟩ (.bool true)) w.heap.size 4 (bo N (upd o y)) by rw [← bo_set]; exact hT.stored _ _)
        have HB2 := Lib.hid (hB.setCell (p := ⟨w.heap.size, y, none⟩) (Nat.le_refl _) (.bool true))
        clear hx HO hT hB
        go_wp2_with fail
        go_roundw
        case rel => exact ⟨k + 1, upd o y, by omega, by go_num, HO2, HT2.out, HB2.out⟩
        case measure => simp [intOf]; omega
      · have HO2 := Lib.hid (show ∀ v, v < N → (o v = true ↔ ∃ j, j < k + 1 ∧ el fs j = (v : Int)) from fun v hv => by
          rw [HO.out v hv]
          constructor
          · rintro ⟨j, hj, e⟩; exact ⟨j, by omega, e⟩
          · rintro ⟨j, hj, e⟩
            by_cases ej : j = k
            · subst ej; rw [hx] at e; omega
            · exact ⟨j, by omega, e⟩)
        have HT2 := Lib.hid hT
        have HB2 := Lib.hid hB
        have hd : (x ≥ 0 ∧ decide (x < (N : Int)) = false) ∨ decide (0 ≤ x) = false := by
          by_cases h0 : 0 ≤ x
          · exact .inl ⟨h0, by simp; omega⟩
          · exact .inr (by simpa using h0)
        clear hx HO hT hB hp
        rcases hd with ⟨h0, h1⟩ | h0
        · go_wp2_with fail
          go_roundw
          case rel => exact ⟨k + 1, o, by omega, by go_num, HO2, HT2.out, HB2.out⟩
          case measure => simp [intOf]; omega
        · go_wp2_with fail
          go_roundw
          case rel => exact ⟨k + 1, o, by omega, by go_num, HO2, HT2.out, HB2.out⟩
          case measure => simp [intOf]; omega
    · obtain rfl : k = M := by omega
      have HST := Lib.hid (RSt.start (g := g) (fs := fs) (o := o) fun v hv => by
        rw [HO.out v (by rw [← HN.out]; exact hv)]
        constructor
        · rintro ⟨j, hj, e⟩
          have hj' : j < fs.length := by rw [HM.out]; exact hj
          rw [← e, ← el_at hj']; exact List.getElem_mem _
        · intro hm
          obtain ⟨j, hj, e⟩ := List.getElem_of_mem hm
          exact ⟨j, by rw [← HM.out]; exact hj, by rw [← el_at hj]; exact e⟩)
      have HT0 := Lib.hid hT
      have HB0 := Lib.hid hB
      clear HO hT hB
      go_wp2_with fail
      go_loopw [7] (fun i wr => ∃ (r : Nat) (o : Nat → Bool), r ≤ N ∧ i = .int .i64 r ∧ Hid (RSt g fs r 0 0 o) ∧ Blk wr w.heap.size 4 (bo N o) ∧ Below w.heap.size w wr) (fun i _ => N - (intOf i).toNat)
      case atStart => exact ⟨0, o, by omega, rfl, HST, HT0.out, HB0.out⟩
      case round =>
        obtain ⟨r, o, hr, rfl, HR, hT, hB⟩ := hrel
        by_cases hrl : r < N
        · have HT := Lib.hid hT
          have HB := Lib.hid hB
          clear hT hB
          go_wp2_with fail
          obtain ⟨wo, hwo⟩ : ∃ wo, wo = wr := ⟨_, rfl⟩
          subst hwo
          go_loopw [8] (fun i wr => ∃ (a : Nat) (o : Nat → Bool), a ≤ N ∧ i = .int .i64 a ∧ Hid (RSt g fs r a 0 o) ∧ Blk wr w.heap.size 4 (bo N o) ∧ Below w.heap.size w wr) (fun i _ => N - (intOf i).toNat)
          case atStart => exact ⟨0, o, by omega, rfl, HR, HT.out, HB.out⟩
          case round =>
            obtain ⟨a, o, ha, rfl, HR, hT, hB⟩ := hrel
            by_cases hal : a < N
            · have HT := Lib.hid hT
              have HB := Lib.hid hB
              obtain ⟨ad, A', c', rfl, hcell0, hm, hel⟩ := HC.out a hal
              obtain ⟨D, hD⟩ : ∃ D, (rowOf g a).length = D := ⟨_, rfl⟩
              rw [hD] at hcell0 hm hel
              have hDm : D ≤ 9223372036854775807 := by unfold maxLen at hm; omega
              have HD := Lib.hid hD
              have HCE := Lib.hid hcell0
              have HEL := Lib.hid hel
              clear hT hB hm hD hcell0 hel
              go_wp2_with fail
              obtain ⟨wp, hwp⟩ : ∃ wp, wp = wr := ⟨_, rfl⟩
              subst hwp
              go_loopw [9] (fun i wr => ∃ (j : Nat) (o : Nat → Bool), j ≤ D ∧ i = .int .i64 j ∧ Hid (RSt g fs r a j o) ∧ Blk wr w.heap.size 4 (bo N o) ∧ Below w.heap.size w wr) (fun i _ => D - (intOf i).toNat)
              case atStart => exact ⟨0, o, by omega, rfl, HR, HT.out, HB.out⟩
              case round =>
                obtain ⟨j, o, hj, rfl, HR, hT, hB⟩ := hrel
                have hcell := HBK.out _ _ _ hB HCE.out
                obtain ⟨bl, hbl⟩ : ∃ bl, o a = bl := ⟨_, rfl⟩
                have cto : wr.cell? ⟨w.heap.size, a, none⟩ = some (.bool bl) := by rw [hT.cell, bo_at _ hal, hbl]
                cases bl with
                | false =>
                  have HRN := Lib.hid (HR.out.nextA (.inl hbl))
                  have HT2 := Lib.hid hT
                  have HB2 := Lib.hid hB
                  clear hT hB hbl
                  go_wp2_with fail
                  go_roundw
                  case rel => exact ⟨a + 1, o, by omega, by go_num, HRN, HT2.out, HB2.out⟩
                  case measure => simp [intOf]; omega
                | true =>
                  by_cases hjl : j < D
                  · obtain ⟨ad', rfl, hx0⟩ := HEL.out j hjl
                    have hx1 := HBK.out _ _ _ hB hx0
                    obtain ⟨x, hx⟩ : ∃ x, el (rowOf g a) j = x := ⟨_, rfl⟩
                    rw [hx] at hx1
                    clear hx0
                    by_cases hp : 0 ≤ x ∧ x < (N : Int)
                    · obtain ⟨y, rfl⟩ : ∃ y : Nat, x = (y : Int) := ⟨x.toNat, by omega⟩
                      have hyN : y < N := by omega
                      have ct : wr.cell? ⟨w.heap.size, y, none⟩ = some (.bool (o y)) := by rw [hT.cell, bo_at _ hyN]
                      have cf : wr.frozen? ⟨w.heap.size, y, none⟩ = false := hT.frozen y
                      obtain ⟨hp0, hp1⟩ := hp
                      have HRN := Lib.hid (HR.out.put (by rw [HN.out]; exact hal) (by rw [HD.out]; exact hjl) hbl hx (by rw [HN.out]; exact hyN))
                      have HT2 := Lib.hid (show Blk (wr.setCell ⟨w.heap.size, y, none⟩ (.bool true)) w.heap.size 4 (bo N (upd o y)) by rw [← bo_set]; exact hT.stored _ _)
                      have HB2 := Lib.hid (hB.setCell (p := ⟨w.heap.size, y, none⟩) (Nat.le_refl _) (.bool true))
                      clear hx hT hB hbl
                      go_wp2_with fail
                      go_roundw
                      case rel => exact ⟨j + 1, upd o y, by omega, by go_num, HRN, HT2.out, HB2.out⟩
                      case measure => simp [intOf]; omega
                    · have HRN := Lib.hid (HR.out.skip (by
                        rw [hx]
                        cases e : isP g x
                        · rfl
                        · have := isP_iff.1 e; rw [HN.out] at this; exact absurd this hp))
                      have HT2 := Lib.hid hT
                      have HB2 := Lib.hid hB
                      have hd : (x ≥ 0 ∧ decide (x < (N : Int)) = false) ∨ decide (0 ≤ x) = false := by
                        by_cases h0 : 0 ≤ x
                        · exact .inl ⟨h0, by simp; omega⟩
                        · exact .inr (by simpa using h0)
                      clear hx hT hB hbl hp
                      rcases hd with ⟨h0, h1⟩ | h0
                      · go_wp2_with fail
                        go_roundw
                        case rel => exact ⟨j + 1, o, by omega, by go_num, HRN, HT2.out, HB2.out⟩
                        case measure => simp [intOf]; omega
                      · go_wp2_with fail
                        go_roundw
                        case rel => exact ⟨j + 1, o, by omega, by go_num, HRN, HT2.out, HB2.out⟩
                        case measure => simp [intOf]; omega
                  · have hjd : j = D := by omega
                    have HRN := Lib.hid (HR.out.nextA (.inr (by rw [HD.out]; exact hjd)))
                    have HT2 := Lib.hid hT
                    have HB2 := Lib.hid hB
                    clear hT hB hbl hjd
                    go_wp2_with fail
                    go_roundw
                    case rel => exact ⟨a + 1, o, by omega, by go_num, HRN, HT2.out, HB2.out⟩
                    case measure => simp [intOf]; omega
            · have haN : a = N := by omega
              have HRN := Lib.hid (HR.out.nextR (by rw [HN.out]; exact haN))
              have HT2 := Lib.hid hT
              have HB2 := Lib.hid hB
              clear hT hB haN
              go_wp2_with fail
              go_roundw
              case rel => exact ⟨r + 1, o, by omega, by go_num, HRN, HT2.out, HB2.out⟩
              case measure => simp [intOf]; omega
        · have hrN : r = N := by omega
          have HFIN := Lib.hid (bo_reach HN.out (HR.out.final (by rw [HN.out]; omega)))
          have HT2 := Lib.hid hT
          have HB2 := Lib.hid hB
          clear hT hB hrN
          go_wp2_with fail
          go_ret
          refine ⟨some ⟨w.heap.size, 0, none⟩, by rw [HN.out]; rfl, ?_, HB2.out⟩
          rw [← HFIN.out, HN.out]
          have h2 : SlV wr wr.heap.size (.slice (some ⟨w.heap.size, 0, none⟩) (bo N o).toList.length N) (bo N o).toList :=
            .at_ _ _ _ (by simp [bo]) (by unfold maxLen; omega) fun j u hu => ⟨HT2.out.lt, by rw [add_plain, Nat.zero_add, HT2.out.cell, ← Array.getElem?_toList]; exact hu⟩
          have hl : (bo N o).toList.length = N := by simp [bo]
          rwa [hl] at h2
end Go.Proofs.Ythkbdclnnpcoiaa.By
