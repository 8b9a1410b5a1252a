/-
  WALKS of layer 15: places of first references; Marks, Refs; slices.Repeat of one number.
-/
import Derived.Test.YthkbdclnnpcoiaaDoorEj
import Derived.Test.YthkbdclnnpcoiaaDoorShelf
import Derived.Laws.CopyRow
import Derived.Laws.CopyOwn
namespace Go.Proofs.YthkbdclnnpcoiaaDoor.By
open Go.RowKit
open Mem Gm Rf
set_option linter.unusedSimpArgs false
set_option linter.unusedVariables false

theorem infoI : (Tryd.prog.info? 3).map (fun i => (i.zero, i.size, i.bytes)) = some (some (.int .i64 0), 1, 8) := by kernel_rfl
def arrN (N : Nat) (f : Nat → Value) : Array Value := ((List.range N).map f).toArray
theorem arrN_size (N : Nat) (f : Nat → Value) : (arrN N f).size = N := by simp [arrN]
theorem arrN_at {N : Nat} (f : Nat → Value) {i : Nat} (h : i < N) : (arrN N f)[i]? = some (f i) := by simp [arrN, h]
theorem arrN_set {N : Nat} (f : Nat → Value) (i : Nat) (u : Value) : (arrN N f).setIfInBounds i u = arrN N (fun j => if j = i then u else f j) := by
  apply Array.ext
  · simp [arrN]
  · intro j h1 h2
    have hj : j < N := by simpa [arrN] using h2
    rw [Array.getElem_setIfInBounds (by rw [arrN_size]; exact hj)]
    by_cases e : i = j
    · subst e; simp [arrN]
    · have e2 : ¬ j = i := fun h => e h.symm
      simp [arrN, e, e2]
theorem arrN_rep (N : Nat) (u : Value) : Array.replicate N u = arrN N fun _ => u := by
  apply Array.ext
  · simp [arrN]
  · intro j h1 h2; simp [arrN]

theorem make_ints (n : Nat) (hn : n ≤ 5000) (W : World) : (Instr.makeSlice 32 (.int .i64 (n : Int)) (.int .i64 (n : Int))).run Tryd.prog W = .ok (.slice (some ⟨W.heap.size, 0, none⟩) n n) (W.alloc (.cells (Array.replicate n (.int .i64 0)) 3)) := by
  obtain ⟨i, hi, hz0, hz1, hz2⟩ := info_parts infoI
  have := run_make (P := Tryd.prog) W 32 3 i (.int .i64 0) Tryd.underlying32 hi hz0 .i64 .i64 (n : Int) (n : Int) (by omega) (by omega) (by rw [hz2]; omega) (by omega)
  rw [this, hz1]
  simp only [Int.toNat_natCast, Nat.mul_one]
  have e : madeCells (Value.int .i64 0).cells n = Array.replicate n (.int .i64 0) := by
    apply Array.ext
    · simp [madeCells, Value.cells]
    · intro i h1 h2
      simp [madeCells, Value.cells, Nat.mod_one]
  rw [e]

/-- A row that was copied onto. -/
theorem copy_row {N k n : Nat} {v : Int} (hk : n + k ≤ N) : ((arrN N fun i => Value.int .i64 (if i < n then v else 0)).toList.take n ++ List.replicate k (Value.int .i64 v) ++ (arrN N fun i => Value.int .i64 (if i < n then v else 0)).toList.drop (n + k)).toArray = arrN N fun i => .int .i64 (if i < n + k then v else 0) := by
  have hl : (arrN N fun i => Value.int .i64 (if i < n then v else 0)).toList = (List.range N).map fun i => Value.int .i64 (if i < n then v else 0) := rfl
  rw [hl]
  unfold arrN
  congr 1
  apply List.ext_getElem?
  intro i
  by_cases h1 : i < n
  · rw [List.append_assoc, List.getElem?_append_left (by simp; omega), List.getElem?_take, if_pos h1, List.getElem?_map, List.getElem?_map, List.getElem?_range (by omega)]
    simp only [Option.map_some]
    rw [if_pos h1, if_pos (by omega)]
  · by_cases h2 : i < n + k
    · rw [List.append_assoc, List.getElem?_append_right (by simp; omega), List.getElem?_append_left (by simp; omega), List.getElem?_replicate, if_pos (by simp; omega), List.getElem?_map, List.getElem?_range (by omega)]
      simp only [Option.map_some]
      rw [if_pos h2]
    · rw [List.getElem?_append_right (by simp; omega), List.getElem?_drop]
      have : n + k + (i - ((((List.range N).map fun i => Value.int .i64 (if i < n then v else 0)).take n) ++ List.replicate k (Value.int .i64 v)).length) = i := by simp; omega
      rw [this, List.getElem?_map, List.getElem?_map]
      cases h3 : (List.range N)[i]? with
      | none => rfl
      | some j =>
        have hj : j = i := by
          have := List.getElem?_eq_some_iff.1 h3
          obtain ⟨_, h5⟩ := this
          simpa using h5.symm
        subst hj
        simp only [Option.map_some]
        rw [if_neg h1, if_neg h2]


theorem copy_grow {W : World} {db N k n : Nat} {v : Int} (hb : Blk W db 3 (arrN N fun i => .int .i64 (if i < n then v else 0))) : Blk (W.setRow db (arrN N fun i => .int .i64 (if i < n + k then v else 0))) db 3 (arrN N fun i => .int .i64 (if i < n + k then v else 0)) :=
  setRow_heap W db _ _ 3 (0, 0) hb

set_option maxRecDepth 100000 in
set_option maxHeartbeats 4000000 in
theorem repeat_any (w : World) (ad : Addr) (v : Int) (N cx : Nat) (hN : N ≤ 5000) (hc : w.cell? (ad.add 0) = some (.int .i64 v)) :
    Calls Tryd.prog 58 #[.slice (some ad) 1 cx, .int .i64 (N : Int)] w fun e w' => ∃ db, e = .returned (.slice (some ⟨db, 0, none⟩) N N) ∧ w.heap.size ≤ db ∧ Blk w' db 3 (arrN N fun _ => .int .i64 v) ∧ Below w.heap.size w w' := by
  have HMU := Lib.hid (show Calls Tryd.prog 67 #[.int .u64 1, .int .u64 (N : Int)] w fun e w' => e = .returned (.tuple #[.int .u64 0, .int .u64 (N : Int)]) ∧ w = w' from by
    refine (Tryd.bits_Mul 1 N (by omega) (by omega) w).mono fun e w' h => ?_
    obtain ⟨h1, h2⟩ := h
    rw [h1, h2, Nat.one_mul, Nat.div_eq_of_lt (by omega), Nat.mod_eq_of_lt (by omega)]
    exact ⟨rfl, rfl⟩)
  have hmk := make_ints N hN
  have hmax : ¬ (9223372036854775807 : Int) < (N : Int) := by omega
  have hsz : (Tryd.prog.info? 3).map (·.size) = some 1 := by kernel_rfl
  have hnn : ¬ (N : Int) < 0 := by omega
  rcases Nat.eq_zero_or_pos N with h0 | h0
  · subst h0
    have hcp : ∀ W, (Builtin.copy_ #[32, 32] 3 #[.slice (some ⟨w.heap.size, 0, none⟩) 0 0, .slice (some ad) 1 cx]).run Tryd.prog W = .ok (.int .i64 0) W := fun W => run_copy_none W 32 32 3 3 _ _ 0 0 1 cx Tryd.underlying32 hsz rfl
    have hmk0 : ∀ W, (Instr.makeSlice 32 (.int .i64 0) (.int .i64 0)).run Tryd.prog W = .ok (.slice (some ⟨W.heap.size, 0, none⟩) 0 0) (W.alloc (.cells #[] 3)) := fun W => make_ints 0 (by omega) W
    go_enter Tryd.func58, Tryd.ntmps58
    go_wp2_with (go_at_call 67; refine HMU.out.mono ?_; rintro e w9 ⟨rfl, rfl⟩)
    go_loopw [8] (fun nv wr => nv = .int .i64 0 ∧ Blk wr w.heap.size 3 (arrN 0 fun _ => .int .i64 v) ∧ Below w.heap.size w wr) (fun _ _ => 0)
    case atStart => exact ⟨rfl, Blk.new w 3 _, alloc_ w _⟩
    case round =>
      obtain ⟨rfl, hb, hbel⟩ := hrel
      go_wp2
      refine bodyPost_ret (results_tmp rfl _ _ _) rfl ?_
      exact ⟨_, rfl, Nat.le_refl _, hb, hbel⟩
  · obtain ⟨W1, hW1⟩ : ∃ W1, w.alloc (.cells (Array.replicate N (.int .i64 0)) 3) = W1 := ⟨_, rfl⟩
    have hb1 : Blk W1 w.heap.size 3 (arrN N fun i => .int .i64 (if i < 0 then v else 0)) := by
      have e : (fun (i : Nat) => Value.int .i64 (if i < 0 then v else 0)) = fun _ => .int .i64 0 := funext fun i => by rw [if_neg (by omega)]
      rw [← hW1, e, ← arrN_rep]
      exact Blk.new w 3 _
    have hc1 : W1.cell? (ad.add 0) = some (.int .i64 v) := by rw [← hW1]; exact ((alloc_ w _).cell (World.block_lt_of_cell? w _ hc)).trans hc
    have hcp := run_copy_row (P := Tryd.prog) W1 32 32 3 3 w.heap.size 0 N N ad 1 cx _ 3 (List.replicate 1 (.int .i64 v)) Tryd.underlying32 hsz hb1 (by rw [List.length_replicate]; exact (Nat.min_eq_left (by omega)).symm) (fun j u hj => by
      have : j = 0 := by have := (List.getElem?_eq_some_iff.1 hj).1; simpa using this
      subst this
      have : Value.int .i64 v = u := by simpa using hj
      rw [← this]; exact hc1) (by rw [arrN_size]; simp; omega) (fun u hu => by
      have : u = .int .i64 v := by simpa using hu
      rw [this]; rfl)
    rw [List.length_replicate, copy_row (by omega)] at hcp
    rw [show goInt ((1 : Nat) : Int) = Value.int .i64 1 from rfl] at hcp
    have hb2 := copy_grow (k := 1) hb1
    have hbel2 : Below w.heap.size w (W1.setRow w.heap.size (arrN N fun i => .int .i64 (if i < 0 + 1 then v else 0))) := by
      refine below_setRow ?_ (Nat.le_refl _) _
      rw [← hW1]; exact alloc_ w _
    generalize W1.setRow w.heap.size _ = W2 at hcp hb2 hbel2
    have HB2 := Lib.hid hb2
    have HBE2 := Lib.hid hbel2
    clear hb1 hc1 hb2 hbel2
    go_enter Tryd.func58, Tryd.ntmps58
    go_wp2_with (go_at_call 67; refine HMU.out.mono ?_; rintro e w9 ⟨rfl, rfl⟩)
    go_loopw [8] (fun nv wr => ∃ n : Nat, 1 ≤ n ∧ n ≤ N ∧ nv = .int .i64 (n : Int) ∧ Blk wr w.heap.size 3 (arrN N fun i => .int .i64 (if i < n then v else 0)) ∧ Below w.heap.size w wr) (fun nv _ => N - (intOf nv).toNat)
    case atStart => exact ⟨1, Nat.le_refl _, h0, rfl, HB2.out, HBE2.out⟩
    case round =>
      obtain ⟨n, hn1, hnN, rfl, hb, hbel⟩ := hrel
      by_cases hlt : n < N
      · obtain ⟨k, hk⟩ : ∃ k, Nat.min n (N - n) = k := ⟨_, rfl⟩
        have hkn : k ≤ n := by rw [← hk]; exact Nat.min_le_left _ _
        have hkr : k ≤ N - n := by rw [← hk]; exact Nat.min_le_right _ _
        have hk1 : 1 ≤ k := by rw [← hk]; exact Nat.le_min.2 ⟨hn1, by omega⟩
        have hnI : (n : Int) ≤ (N : Int) := by omega
        have hn0 : (0 : Int) ≤ (n : Int) := by omega
        have hltI : (n : Int) < (N : Int) := by omega
        have hNn : ¬ N = n := by omega
        have hwn : IntKind.i64.wrap ((n : Int) + (k : Int)) = ((n + k : Nat) : Int) := by rw [IntWalk.i64_in _ ⟨by omega, by omega⟩]; omega
        have hcp := run_copy_row (P := Tryd.prog) wr.drew 32 32 3 3 w.heap.size n (N - n) (N - n) ⟨w.heap.size, 0, none⟩ n N _ 3 (List.replicate k (.int .i64 v)) Tryd.underlying32 hsz hb (by rw [List.length_replicate]; exact hk.symm) (fun j u hj => by
          have hj9 : j < k := by have := (List.getElem?_eq_some_iff.1 hj).1; simpa using this
          have : Value.int .i64 v = u := by
            rw [List.getElem?_replicate, if_pos hj9] at hj
            injection hj
          rw [← this, add_plain, Nat.zero_add]
          exact (hb.cell j).trans (by rw [arrN_at _ (by omega), if_pos (by omega)])) (by rw [arrN_size, List.length_replicate]; omega) (fun u hu => by
          have := List.eq_of_mem_replicate hu
          rw [this]; rfl)
        rw [List.length_replicate, copy_row (by omega), show goInt ((k : Nat) : Int) = Value.int .i64 (k : Int) from rfl] at hcp
        have HB3 := Lib.hid (copy_grow (k := k) (show Blk wr.drew w.heap.size 3 _ from hb))
        have HBE3 := Lib.hid (show Below w.heap.size w (wr.drew.setRow w.heap.size (arrN N fun i => .int .i64 (if i < n + k then v else 0))) from below_setRow (below_drewN hbel 1) (Nat.le_refl _) _)
        generalize wr.drew.setRow w.heap.size _ = W3 at hcp HB3 HBE3
        have HK := Lib.hid (show 1 ≤ k ∧ k ≤ N - n ∧ n < N from ⟨hk1, hkr, hlt⟩)
        clear hb hbel hk hkn hkr hk1 HB2 HBE2 HMU
        go_wp2_with fail
        refine wp_region_noPanic ?_
        refine wp_region_held_drew (S := fun _ => True) (by kernel_rfl) (trivial) (fun hHeld => ?_)
        refine wpAnyH_take (i := 0) rfl (by kernel_rfl) (by kernel_rfl) (by kernel_rfl) (fun _ _ _ h => h) (Or.inl ⟨by rfl, by intro W hSW; (try dsimp only at hSW); go_simp; try (with_reducible rfl)⟩) hHeld ?_
        try simp only [Act.put, List.getElem_toArray, List.getElem_cons_zero, List.getElem_cons_succ, List.setIfInBounds_toArray, List.set_cons_zero, List.set_cons_succ]
        refine wpAnyH_take (i := 1) rfl (by kernel_rfl) (by kernel_rfl) (by kernel_rfl) (fun _ _ _ h => h) (Or.inl ⟨by rfl, by intro W hSW; (try dsimp only at hSW); go_simp; try (with_reducible rfl)⟩) hHeld ?_
        try simp only [Act.put, List.getElem_toArray, List.getElem_cons_zero, List.getElem_cons_succ, List.setIfInBounds_toArray, List.set_cons_zero, List.set_cons_succ]
        refine wpAnyH_take (i := 2) rfl (by kernel_rfl) (by kernel_rfl) (by kernel_rfl) (fun _ _ _ h => h) (Or.inl ⟨by rfl, by intro W hSW; (try dsimp only at hSW); go_simp; try (with_reducible rfl)⟩) hHeld ?_
        try simp only [Act.put, List.getElem_toArray, List.getElem_cons_zero, List.getElem_cons_succ, List.setIfInBounds_toArray, List.set_cons_zero, List.set_cons_succ]
        refine wpAnyH_take (i := 3) rfl (by kernel_rfl) (by kernel_rfl) (by kernel_rfl) (fun _ _ _ h => h) (Or.inl ⟨by rfl, by intro W hSW; (try dsimp only at hSW); go_simp; try (with_reducible rfl)⟩) hHeld ?_
        try simp only [Act.put, List.getElem_toArray, List.getElem_cons_zero, List.getElem_cons_succ, List.setIfInBounds_toArray, List.set_cons_zero, List.set_cons_succ]
        refine wpAnyH_take (i := 4) rfl (by kernel_rfl) (by kernel_rfl) (by kernel_rfl) (fun _ _ _ h => h) (Or.inl ⟨by rfl, by intro W hSW; (try dsimp only at hSW); go_simp; try (with_reducible rfl)⟩) hHeld ?_
        try simp only [Act.put, List.getElem_toArray, List.getElem_cons_zero, List.getElem_cons_succ, List.setIfInBounds_toArray, List.set_cons_zero, List.set_cons_succ]
        refine wpAnyH_take (i := 5) rfl (by kernel_rfl) (by kernel_rfl) (by kernel_rfl) (fun _ _ _ h => h) (Or.inl ⟨by rfl, by intro W hSW; (try dsimp only at hSW); go_simp; try (with_reducible rfl)⟩) hHeld ?_
        try simp only [Act.put, List.getElem_toArray, List.getElem_cons_zero, List.getElem_cons_succ, List.setIfInBounds_toArray, List.set_cons_zero, List.set_cons_succ]
        refine wpAnyH_take (i := 6) rfl (by kernel_rfl) (by kernel_rfl) (by kernel_rfl) (fun _ _ _ h => h) (Or.inl ⟨by rfl, by intro W hSW; (try dsimp only at hSW); go_simp; try (with_reducible rfl)⟩) hHeld ?_
        try simp only [Act.put, List.getElem_toArray, List.getElem_cons_zero, List.getElem_cons_succ, List.setIfInBounds_toArray, List.set_cons_zero, List.set_cons_succ]
        refine wpAnyH_ready (rs := [7]) (by kernel_rfl) (by simp) ?_
        refine AllReadyH.cons rfl (fun K9 hK9 => ?_) AllReadyH.nil
        go_simp
        refine hK9.out _ _ trivial ?_
        clear hK9 K9 hHeld
        intro hHeld
        try simp only [Act.put, List.getElem_toArray, List.getElem_cons_zero, List.getElem_cons_succ, List.setIfInBounds_toArray, List.set_cons_zero, List.set_cons_succ]
        refine wpAnyH_take (i := 8) rfl (by kernel_rfl) (by kernel_rfl) (by kernel_rfl) (fun _ _ _ h => h) (Or.inl ⟨by rfl, by intro W hSW; (try dsimp only at hSW); go_simp; try (with_reducible rfl)⟩) hHeld ?_
        try simp only [Act.put, List.getElem_toArray, List.getElem_cons_zero, List.getElem_cons_succ, List.setIfInBounds_toArray, List.set_cons_zero, List.set_cons_succ]
        refine wpAnyH_take (i := 9) rfl (by kernel_rfl) (by kernel_rfl) (by kernel_rfl) (fun _ _ _ h => h) (Or.inl ⟨by rfl, by intro W hSW; (try dsimp only at hSW); go_simp; try (with_reducible rfl)⟩) hHeld ?_
        try simp only [Act.put, List.getElem_toArray, List.getElem_cons_zero, List.getElem_cons_succ, List.setIfInBounds_toArray, List.set_cons_zero, List.set_cons_succ]
        refine wpAnyH_done (by kernel_rfl) ?_ _
        refine NoPanic.normal ?_
        go_wp2_with fail
        go_roundw
        case rel => exact ⟨n + k, by omega, by have := HK.out; omega, rfl, HB3.out, HBE3.out⟩
        case measure => have := HK.out; simp only [intOf]; omega
      · obtain rfl : n = N := by omega
        have e : (fun (i : Nat) => Value.int .i64 v) = fun _ => .int .i64 v := rfl
        have hb9 : Blk wr w.heap.size 3 (arrN n fun _ => .int .i64 v) := by
          have : arrN n (fun i => Value.int .i64 (if i < n then v else 0)) = arrN n fun _ => .int .i64 v := by
            unfold arrN
            congr 1
            refine List.map_congr_left fun i hi => ?_
            rw [if_pos (List.mem_range.1 hi)]
          rw [← this]; exact hb
        clear hb e
        go_wp2
        refine bodyPost_ret (results_tmp rfl _ _ _) rfl ?_
        exact ⟨_, rfl, Nat.le_refl _, hb9, hbel⟩

/-- The place of the first reference at a place, of the first k. -/
def fmT (rs : List Rl) (k : Nat) (p : Nat) : Int := match (List.range k).find? (fun i => (rlAt rs i).1 == (p : Int)) with | some i => (i : Int) | none => -1
theorem fmT_zero (rs : List Rl) (p : Nat) : fmT rs 0 p = -1 := rfl
theorem fmT_cases (rs : List Rl) (k p : Nat) : (fmT rs k p = -1 ∧ ∀ i, i < k → (rlAt rs i).1 ≠ (p : Int)) ∨ ∃ i, i < k ∧ fmT rs k p = (i : Int) ∧ (rlAt rs i).1 = (p : Int) := by
  unfold fmT
  cases h : (List.range k).find? (fun i => (rlAt rs i).1 == (p : Int)) with
  | none =>
    left
    refine ⟨rfl, fun i hi => ?_⟩
    rw [List.find?_eq_none] at h
    have := h i (List.mem_range.2 hi)
    simpa using this
  | some i =>
    right
    have h1 := List.find?_some h
    have h2 := List.mem_of_find?_eq_some h
    exact ⟨i, List.mem_range.1 h2, rfl, by simpa using h1⟩
theorem fmT_next (rs : List Rl) (k p : Nat) : fmT rs (k + 1) p = if fmT rs k p = -1 ∧ (rlAt rs k).1 = (p : Int) then (k : Int) else fmT rs k p := by
  unfold fmT
  rw [List.range_succ, List.find?_append]
  cases h : (List.range k).find? (fun i => (rlAt rs i).1 == (p : Int)) with
  | none =>
    by_cases hk : (rlAt rs k).1 = (p : Int)
    · simp [hk]
    · simp [hk]
  | some i =>
    first
      | (simp; done)
      | (simp; intro hh; omega)
theorem placeB (x : Int) (n : Nat) : (decide (0 ≤ x) && decide (x < (n : Int))) = true ↔ ∃ p : Nat, x = (p : Int) ∧ p < n := by
  constructor
  · intro h
    simp at h
    exact ⟨x.toNat, by omega, by omega⟩
  · rintro ⟨p, rfl, hp⟩
    simp; omega
def FsAns (rs : List Rl) (nR N : Nat) (w : World) (e : Ending) (w' : World) : Prop := ∃ db, e = .returned (.slice (some ⟨db, 0, none⟩) N N) ∧ w.heap.size ≤ db ∧ Blk w' db 3 (arrN N fun p => .int .i64 (fmT rs nR p)) ∧ Below w.heap.size w w'

set_option maxRecDepth 100000 in
set_option maxHeartbeats 2000000 in
theorem firsts_any (w : World) (AR : Option Addr) (nR cR N : Nat) (rs : List Rl) (h : RlL w AR nR cR rs) (hR : nR ≤ 1000000) (hN : N ≤ 5000) :
    Calls Tryd.prog 28 #[.slice AR nR cR, .int .i64 (N : Int)] w (FsAns rs nR N w) := by
  have HR := Lib.hid (fun W (hb : Below w.heap.size w W) i (hi : i < nR) => (h.on hb).at_ hi)
  have HRP := Lib.hid (show Calls Tryd.prog 58 #[.slice (some ⟨w.heap.size, 0, none⟩) 1 1, .int .i64 (N : Int)] (w.alloc (.cells #[.int .i64 (-1)] 3)) _ from repeat_any (w.alloc (.cells #[.int .i64 (-1)] 3)) ⟨w.heap.size, 0, none⟩ (-1) N 1 hN (by rw [add_plain]; exact (Blk.new w _ _).cell 0))
  have HPL := Lib.hid (fun x W => placeD_any x (N : Int) W)
  clear h
  go_enter Tryd.func28, Tryd.ntmps28
  go_wp2_with (go_at_call 58; refine HRP.out.mono ?_; rintro e w1 ⟨db, rfl, hdb, hb1, hbel1⟩; have HB1 := Lib.hid hb1; have HE1 := Lib.hid (to_ (alloc_ w _) hbel1); have HDB := Lib.hid (show w.heap.size ≤ db by simp at hdb; omega); clear hb1 hbel1 hdb)
  go_loopw [13] (fun i wr => ∃ k : Nat, k ≤ nR ∧ i = .int .i64 (k : Int) ∧ Blk wr db 3 (arrN N fun p => .int .i64 (fmT rs k p)) ∧ Below w.heap.size w wr) (fun i _ => nR - (intOf i).toNat)
  case atStart => exact ⟨0, Nat.zero_le _, rfl, HB1.out, HE1.out⟩
  case round =>
    obtain ⟨k, hk, rfl, hblk, hbel⟩ := hrel
    have HBK := Lib.hid hblk
    have HBE := Lib.hid hbel
    by_cases hlt : k < nR
    · have hkI : (k : Int) < (nR : Int) := by omega
      obtain ⟨ad, rfl, _, d0, d1, d2⟩ := HR.out wr hbel k hlt
      have HNX := Lib.hid (fmT_next rs k)
      obtain ⟨x, hx⟩ : ∃ x, rlAt rs k = x := ⟨_, rfl⟩
      rw [hx] at d0 d1 d2 HNX
      obtain ⟨x0, x1, x2⟩ := x
      clear hx hblk hbel
      have HAL := Lib.hid (alloc_ wr (.cells #[.int .i64 x0, .int .i64 x1, .bool x2] 51))
      have hdl : db < wr.heap.size := HBK.out.lt
      obtain ⟨pb, hpb⟩ : ∃ b, (decide (0 ≤ x0) && decide (x0 < (N : Int))) = b := ⟨_, rfl⟩
      have HP := Lib.hid (fun W => HPL.out x0 W)
      rw [hpb] at HP
      cases pb with
      | false =>
        have HE := Lib.hid (show (arrN N fun p => Value.int .i64 (fmT rs (k + 1) p)) = arrN N fun p => .int .i64 (fmT rs k p) from by
          unfold arrN
          congr 1
          refine List.map_congr_left fun p hp => ?_
          rw [HNX.out, if_neg]
          rintro ⟨_, e⟩
          have : (decide (0 ≤ x0) && decide (x0 < (N : Int))) = true := (placeB x0 N).2 ⟨p, e, List.mem_range.1 hp⟩
          rw [hpb] at this; cases this)
        clear hpb
        go_wp2_with (go_at_call 51; refine (HP.out _).mono ?_; rintro e w9 ⟨rfl, rfl⟩)
        go_roundw
        case rel => exact ⟨k + 1, by omega, by go_num, by rw [HE.out]; exact HBK.out.alloc _, to_ HBE.out HAL.out⟩
        case measure => simp [intOf]; omega
      | true =>
        obtain ⟨p, rfl, hpN⟩ := (placeB x0 N).1 hpb
        have hpI : (p : Int) < (N : Int) := by omega
        have hcell : wr.cell? ⟨db, p, none⟩ = some (.int .i64 (fmT rs k p)) := by rw [HBK.out.cell, arrN_at _ hpN]
        have hfr : wr.frozen? ⟨db, p, none⟩ = false := HBK.out.frozen p
        have HNP := Lib.hid (HNX.out p)
        have HE := Lib.hid (show fmT rs k p ≠ -1 → (arrN N fun p => Value.int .i64 (fmT rs (k + 1) p)) = arrN N fun p => .int .i64 (fmT rs k p) from fun hne => by
          unfold arrN
          congr 1
          refine List.map_congr_left fun p' hp => ?_
          rw [HNX.out, if_neg]
          rintro ⟨h1, e⟩
          have : p = p' := by have e : (p : Int) = (p' : Int) := e
                              omega
          subst this
          exact hne h1)
        have HE2 := Lib.hid (show fmT rs k p = -1 → (arrN N fun p => Value.int .i64 (fmT rs (k + 1) p)) = (arrN N fun p => .int .i64 (fmT rs k p)).setIfInBounds p (.int .i64 (k : Int)) from fun he => by
          rw [arrN_set]
          unfold arrN
          congr 1
          refine List.map_congr_left fun p' hp => ?_
          rw [HNX.out]
          by_cases e : p' = p
          · subst e; rw [if_pos ⟨he, rfl⟩, if_pos rfl]
          · rw [if_neg (fun hh => e (by have e2 : (p : Int) = (p' : Int) := hh.2
                                        omega)), if_neg e])
        obtain ⟨y, hy⟩ : ∃ y, fmT rs k p = y := ⟨_, rfl⟩
        rw [hy] at hcell HE HE2
        clear hpb hy
        by_cases h1 : y = -1
        · have HE3 := Lib.hid (HE2.out h1)
          subst h1
          clear HE HE2
          go_wp2_with (go_at_call 51; refine (HP.out _).mono ?_; rintro e w9 ⟨rfl, rfl⟩)
          go_roundw
          case rel =>
            refine ⟨k + 1, by omega, by go_num, ?_, ?_⟩
            · rw [HE3.out]
              first
                | exact (HBK.out.stored p _).alloc _
                | exact (HBK.out.alloc _).stored p _
            · first
                | exact to_ (HBE.out.setCell (p := ⟨db, p, none⟩) HDB.out _) (alloc_ _ _)
                | exact (to_ HBE.out HAL.out).setCell (p := ⟨db, p, none⟩) HDB.out _
          case measure => simp [intOf]; omega
        · have hyb : (y == -1) = false := by simpa using h1
          have HEE := Lib.hid (HE.out h1)
          clear h1
          go_wp2_with (go_at_call 51; refine (HP.out _).mono ?_; rintro e w9 ⟨rfl, rfl⟩)
          go_roundw
          case rel => exact ⟨k + 1, by omega, by go_num, by rw [HEE.out]; exact HBK.out.alloc _, to_ HBE.out HAL.out⟩
          case measure => simp [intOf]; omega
    · obtain rfl : k = nR := by omega
      clear hblk hbel
      go_wp2_with fail
      go_ret
      exact ⟨db, rfl, HDB.out, HBK.out, HBE.out⟩
end Go.Proofs.YthkbdclnnpcoiaaDoor.By
