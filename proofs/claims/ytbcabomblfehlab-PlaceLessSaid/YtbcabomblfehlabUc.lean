/-
  WALK of slices.Repeat of one number; lists of numbers that are made.
-/
import Derived.Test.YtbcabomblfehlabPb
import Derived.Test.YtbcabomblfehlabMu
import Derived.Laws.CopyRow
import Derived.Laws.CopyOwn
namespace Go.Proofs.Ytbcabomblfehlab.By
open Go.RowKit
open Mem Gm Rf
set_option linter.unusedSimpArgs false

theorem arrN_size (N : Nat) (f : Nat → Value) : (arrN N f).size = N := by simp [arrN]
theorem arrN_set {N : Nat} (f : Nat → Value) (i : Nat) (u : Value) : (arrN N f).setIfInBounds i u = arrN N (fun j => if j = i then u else f j) := by
  apply Array.ext
  · simp [arrN]
  · intro j h1 h2
    have hj : j < N := by simpa [arrN] using h2
    rw [Array.getElem_setIfInBounds (by rw [arrN_size]; exact hj)]
    by_cases e : i = j
    · subst e; simp [arrN]
    · have e2 : ¬ j = i := fun h => e h.symm
      simp [arrN, e, e2]
theorem arrN_rep (N : Nat) (u : Value) : Array.replicate N u = arrN N fun _ => u := by
  apply Array.ext
  · simp [arrN]
  · intro j h1 h2; simp [arrN]

theorem make_ints (n : Nat) (hn : n ≤ 1000) (W : World) : (Instr.makeSlice 24 (.int .i64 (n : Int)) (.int .i64 (n : Int))).run Try.prog W = .ok (.slice (some ⟨W.heap.size, 0, none⟩) n n) (W.alloc (.cells (Array.replicate n (.int .i64 0)) 3)) := by
  obtain ⟨i, hi, hz0, hz1, hz2⟩ := info_parts infoI
  have := run_make (P := Try.prog) W 24 3 i (.int .i64 0) Try.underlying24 hi hz0 .i64 .i64 (n : Int) (n : Int) (by omega) (by omega) (by rw [hz2]; omega) (by omega)
  rw [this, hz1]
  simp only [Int.toNat_natCast, Nat.mul_one]
  have e : madeCells (Value.int .i64 0).cells n = Array.replicate n (.int .i64 0) := by
    apply Array.ext
    · simp [madeCells, Value.cells]
    · intro i h1 h2
      simp [madeCells, Value.cells, Nat.mod_one]
  rw [e]

/-- A row that was copied onto. -/
theorem copy_row {N k n : Nat} {v : Int} (hk : n + k ≤ N) : ((arrN N fun i => Value.int .i64 (if i < n then v else 0)).toList.take n ++ List.replicate k (Value.int .i64 v) ++ (arrN N fun i => Value.int .i64 (if i < n then v else 0)).toList.drop (n + k)).toArray = arrN N fun i => .int .i64 (if i < n + k then v else 0) := by
  have hl : (arrN N fun i => Value.int .i64 (if i < n then v else 0)).toList = (List.range N).map fun i => Value.int .i64 (if i < n then v else 0) := rfl
  rw [hl]
  unfold arrN
  congr 1
  apply List.ext_getElem?
  intro i
  by_cases h1 : i < n
  · rw [List.append_assoc, List.getElem?_append_left (by simp; omega), List.getElem?_take, if_pos h1, List.getElem?_map, List.getElem?_map, List.getElem?_range (by omega)]
    simp only [Option.map_some]
    rw [if_pos h1, if_pos (by omega)]
  · by_cases h2 : i < n + k
    · rw [List.append_assoc, List.getElem?_append_right (by simp; omega), List.getElem?_append_left (by simp; omega), List.getElem?_replicate, if_pos (by simp; omega), List.getElem?_map, List.getElem?_range (by omega)]
      simp only [Option.map_some]
      rw [if_pos h2]
    · rw [List.getElem?_append_right (by simp; omega), List.getElem?_drop]
      have : n + k + (i - ((((List.range N).map fun i => Value.int .i64 (if i < n then v else 0)).take n) ++ List.replicate k (Value.int .i64 v)).length) = i := by simp; omega
      rw [this, List.getElem?_map, List.getElem?_map]
      cases h3 : (List.range N)[i]? with
      | none => rfl
      | some j =>
        have hj : j = i := by
          have := List.getElem?_eq_some_iff.1 h3
          obtain ⟨_, h5⟩ := this
          simpa using h5.symm
        subst hj
        simp only [Option.map_some]
        rw [if_neg h1, if_neg h2]


theorem copy_grow {W : World} {db N k n : Nat} {v : Int} (hb : Blk W db 3 (arrN N fun i => .int .i64 (if i < n then v else 0))) : Blk (W.setRow db (arrN N fun i => .int .i64 (if i < n + k then v else 0))) db 3 (arrN N fun i => .int .i64 (if i < n + k then v else 0)) :=
  setRow_heap W db _ _ 3 (0, 0) hb

set_option maxRecDepth 100000 in
set_option maxHeartbeats 4000000 in
theorem repeat_any (w : World) (ad : Addr) (v : Int) (N cx : Nat) (hN : N ≤ 1000) (hc : w.cell? (ad.add 0) = some (.int .i64 v)) :
    Calls Try.prog 24 #[.slice (some ad) 1 cx, .int .i64 (N : Int)] w fun e w' => ∃ db, e = .returned (.slice (some ⟨db, 0, none⟩) N N) ∧ w.heap.size ≤ db ∧ Blk w' db 3 (arrN N fun _ => .int .i64 v) ∧ Below w.heap.size w w' := by
  have HMU := Lib.hid (show Calls Try.prog 38 #[.int .u64 1, .int .u64 (N : Int)] w fun e w' => e = .returned (.tuple #[.int .u64 0, .int .u64 (N : Int)]) ∧ w = w' from by
    refine (Try.bits_Mul 1 N (by omega) (by omega) w).mono fun e w' h => ?_
    obtain ⟨h1, h2⟩ := h
    rw [h1, h2, Nat.one_mul, Nat.div_eq_of_lt (by omega), Nat.mod_eq_of_lt (by omega)]
    exact ⟨rfl, rfl⟩)
  have hmk := make_ints N hN
  have hmax : ¬ (9223372036854775807 : Int) < (N : Int) := by omega
  have hsz : (Try.prog.info? 3).map (·.size) = some 1 := by kernel_rfl
  have hnn : ¬ (N : Int) < 0 := by omega
  rcases Nat.eq_zero_or_pos N with h0 | h0
  · subst h0
    have hcp : ∀ W, (Builtin.copy_ #[24, 24] 3 #[.slice (some ⟨w.heap.size, 0, none⟩) 0 0, .slice (some ad) 1 cx]).run Try.prog W = .ok (.int .i64 0) W := fun W => run_copy_none W 24 24 3 3 _ _ 0 0 1 cx Try.underlying24 hsz rfl
    have hmk0 : ∀ W, (Instr.makeSlice 24 (.int .i64 0) (.int .i64 0)).run Try.prog W = .ok (.slice (some ⟨W.heap.size, 0, none⟩) 0 0) (W.alloc (.cells #[] 3)) := fun W => make_ints 0 (by omega) W
    go_enter Try.func24, Try.ntmps24
    go_wp2_with (go_at_call 38; refine HMU.out.mono ?_; rintro e w9 ⟨rfl, rfl⟩)
    go_loopw [8] (fun nv wr => nv = .int .i64 0 ∧ Blk wr w.heap.size 3 (arrN 0 fun _ => .int .i64 v) ∧ Below w.heap.size w wr) (fun _ _ => 0)
    case atStart => exact ⟨rfl, Blk.new w 3 _, alloc_ w _⟩
    case round =>
      obtain ⟨rfl, hb, hbel⟩ := hrel
      go_wp2
      refine bodyPost_ret (results_tmp rfl _ _ _) rfl ?_
      exact ⟨_, rfl, Nat.le_refl _, hb, hbel⟩
  · obtain ⟨W1, hW1⟩ : ∃ W1, w.alloc (.cells (Array.replicate N (.int .i64 0)) 3) = W1 := ⟨_, rfl⟩
    have hb1 : Blk W1 w.heap.size 3 (arrN N fun i => .int .i64 (if i < 0 then v else 0)) := by
      have e : (fun (i : Nat) => Value.int .i64 (if i < 0 then v else 0)) = fun _ => .int .i64 0 := funext fun i => by rw [if_neg (by omega)]
      rw [← hW1, e, ← arrN_rep]
      exact Blk.new w 3 _
    have hc1 : W1.cell? (ad.add 0) = some (.int .i64 v) := by rw [← hW1]; exact ((alloc_ w _).cell (World.block_lt_of_cell? w _ hc)).trans hc
    have hcp := run_copy_row (P := Try.prog) W1 24 24 3 3 w.heap.size 0 N N ad 1 cx _ 3 (List.replicate 1 (.int .i64 v)) Try.underlying24 hsz hb1 (by rw [List.length_replicate]; exact (Nat.min_eq_left (by omega)).symm) (fun j u hj => by
      have : j = 0 := by have := (List.getElem?_eq_some_iff.1 hj).1; simpa using this
      subst this
      have : Value.int .i64 v = u := by simpa using hj
      rw [← this]; exact hc1) (by rw [arrN_size]; simp; omega) (fun u hu => by
      have : u = .int .i64 v := by simpa using hu
      rw [this]; rfl)
    rw [List.length_replicate, copy_row (by omega)] at hcp
    rw [show goInt ((1 : Nat) : Int) = Value.int .i64 1 from rfl] at hcp
    have hb2 := copy_grow (k := 1) hb1
    have hbel2 : Below w.heap.size w (W1.setRow w.heap.size (arrN N fun i => .int .i64 (if i < 0 + 1 then v else 0))) := by
      refine below_setRow ?_ (Nat.le_refl _) _
      rw [← hW1]; exact alloc_ w _
    generalize W1.setRow w.heap.size _ = W2 at hcp hb2 hbel2
    have HB2 := Lib.hid hb2
    have HBE2 := Lib.hid hbel2
    clear hb1 hc1 hb2 hbel2
    go_enter Try.func24, Try.ntmps24
    go_wp2_with (go_at_call 38; refine HMU.out.mono ?_; rintro e w9 ⟨rfl, rfl⟩)
    go_loopw [8] (fun nv wr => ∃ n : Nat, 1 ≤ n ∧ n ≤ N ∧ nv = .int .i64 (n : Int) ∧ Blk wr w.heap.size 3 (arrN N fun i => .int .i64 (if i < n then v else 0)) ∧ Below w.heap.size w wr) (fun nv _ => N - (intOf nv).toNat)
    case atStart => exact ⟨1, Nat.le_refl _, h0, rfl, HB2.out, HBE2.out⟩
    case round =>
      obtain ⟨n, hn1, hnN, rfl, hb, hbel⟩ := hrel
      by_cases hlt : n < N
      · obtain ⟨k, hk⟩ : ∃ k, Nat.min n (N - n) = k := ⟨_, rfl⟩
        have hkn : k ≤ n := by rw [← hk]; exact Nat.min_le_left _ _
        have hkr : k ≤ N - n := by rw [← hk]; exact Nat.min_le_right _ _
        have hk1 : 1 ≤ k := by rw [← hk]; exact Nat.le_min.2 ⟨hn1, by omega⟩
        have hnI : (n : Int) ≤ (N : Int) := by omega
        have hn0 : (0 : Int) ≤ (n : Int) := by omega
        have hltI : (n : Int) < (N : Int) := by omega
        have hNn : ¬ N = n := by omega
        have hwn : IntKind.i64.wrap ((n : Int) + (k : Int)) = ((n + k : Nat) : Int) := by rw [IntWalk.i64_in _ ⟨by omega, by omega⟩]; omega
        have hcp := run_copy_row (P := Try.prog) wr.drew 24 24 3 3 w.heap.size n (N - n) (N - n) ⟨w.heap.size, 0, none⟩ n N _ 3 (List.replicate k (.int .i64 v)) Try.underlying24 hsz hb (by rw [List.length_replicate]; exact hk.symm) (fun j u hj => by
          have hj9 : j < k := by have := (List.getElem?_eq_some_iff.1 hj).1; simpa using this
          have : Value.int .i64 v = u := by
            rw [List.getElem?_replicate, if_pos hj9] at hj
            injection hj
          rw [← this, add_plain, Nat.zero_add]
          exact (hb.cell j).trans (by rw [arrN_at _ (by omega), if_pos (by omega)])) (by rw [arrN_size, List.length_replicate]; omega) (fun u hu => by
          have := List.eq_of_mem_replicate hu
          rw [this]; rfl)
        rw [List.length_replicate, copy_row (by omega), show goInt ((k : Nat) : Int) = Value.int .i64 (k : Int) from rfl] at hcp
        have HB3 := Lib.hid (copy_grow (k := k) (show Blk wr.drew w.heap.size 3 _ from hb))
        have HBE3 := Lib.hid (show Below w.heap.size w (wr.drew.setRow w.heap.size (arrN N fun i => .int .i64 (if i < n + k then v else 0))) from below_setRow (below_drewN hbel 1) (Nat.le_refl _) _)
        generalize wr.drew.setRow w.heap.size _ = W3 at hcp HB3 HBE3
        have HK := Lib.hid (show 1 ≤ k ∧ k ≤ N - n ∧ n < N from ⟨hk1, hkr, hlt⟩)
        clear hb hbel hk hkn hkr hk1 HB2 HBE2 HMU
        go_wp2_with fail
        refine wp_region_noPanic ?_
        refine wp_region_held_drew (S := fun _ => True) (by kernel_rfl) (trivial) (fun hHeld => ?_)
        refine wpAnyH_take (i := 0) rfl (by kernel_rfl) (by kernel_rfl) (by kernel_rfl) (fun _ _ _ h => h) (Or.inl ⟨by rfl, by intro W hSW; (try dsimp only at hSW); go_simp; try (with_reducible rfl)⟩) hHeld ?_
        try simp only [Act.put, List.getElem_toArray, List.getElem_cons_zero, List.getElem_cons_succ, List.setIfInBounds_toArray, List.set_cons_zero, List.set_cons_succ]
        refine wpAnyH_take (i := 1) rfl (by kernel_rfl) (by kernel_rfl) (by kernel_rfl) (fun _ _ _ h => h) (Or.inl ⟨by rfl, by intro W hSW; (try dsimp only at hSW); go_simp; try (with_reducible rfl)⟩) hHeld ?_
        try simp only [Act.put, List.getElem_toArray, List.getElem_cons_zero, List.getElem_cons_succ, List.setIfInBounds_toArray, List.set_cons_zero, List.set_cons_succ]
        refine wpAnyH_take (i := 2) rfl (by kernel_rfl) (by kernel_rfl) (by kernel_rfl) (fun _ _ _ h => h) (Or.inl ⟨by rfl, by intro W hSW; (try dsimp only at hSW); go_simp; try (with_reducible rfl)⟩) hHeld ?_
        try simp only [Act.put, List.getElem_toArray, List.getElem_cons_zero, List.getElem_cons_succ, List.setIfInBounds_toArray, List.set_cons_zero, List.set_cons_succ]
        refine wpAnyH_take (i := 3) rfl (by kernel_rfl) (by kernel_rfl) (by kernel_rfl) (fun _ _ _ h => h) (Or.inl ⟨by rfl, by intro W hSW; (try dsimp only at hSW); go_simp; try (with_reducible rfl)⟩) hHeld ?_
        try simp only [Act.put, List.getElem_toArray, List.getElem_cons_zero, List.getElem_cons_succ, List.setIfInBounds_toArray, List.set_cons_zero, List.set_cons_succ]
        refine wpAnyH_take (i := 4) rfl (by kernel_rfl) (by kernel_rfl) (by kernel_rfl) (fun _ _ _ h => h) (Or.inl ⟨by rfl, by intro W hSW; (try dsimp only at hSW); go_simp; try (with_reducible rfl)⟩) hHeld ?_
        try simp only [Act.put, List.getElem_toArray, List.getElem_cons_zero, List.getElem_cons_succ, List.setIfInBounds_toArray, List.set_cons_zero, List.set_cons_succ]
        refine wpAnyH_take (i := 5) rfl (by kernel_rfl) (by kernel_rfl) (by kernel_rfl) (fun _ _ _ h => h) (Or.inl ⟨by rfl, by intro W hSW; (try dsimp only at hSW); go_simp; try (with_reducible rfl)⟩) hHeld ?_
        try simp only [Act.put, List.getElem_toArray, List.getElem_cons_zero, List.getElem_cons_succ, List.setIfInBounds_toArray, List.set_cons_zero, List.set_cons_succ]
        refine wpAnyH_take (i := 6) rfl (by kernel_rfl) (by kernel_rfl) (by kernel_rfl) (fun _ _ _ h => h) (Or.inl ⟨by rfl, by intro W hSW; (try dsimp only at hSW); go_simp; try (with_reducible rfl)⟩) hHeld ?_
        try simp only [Act.put, List.getElem_toArray, List.getElem_cons_zero, List.getElem_cons_succ, List.setIfInBounds_toArray, List.set_cons_zero, List.set_cons_succ]
        refine wpAnyH_ready (rs := [7]) (by kernel_rfl) (by simp) ?_
        refine AllReadyH.cons rfl (fun K9 hK9 => ?_) AllReadyH.nil
        go_simp
        refine hK9.out _ _ trivial ?_
        clear hK9 K9 hHeld
        intro hHeld
        try simp only [Act.put, List.getElem_toArray, List.getElem_cons_zero, List.getElem_cons_succ, List.setIfInBounds_toArray, List.set_cons_zero, List.set_cons_succ]
        refine wpAnyH_take (i := 8) rfl (by kernel_rfl) (by kernel_rfl) (by kernel_rfl) (fun _ _ _ h => h) (Or.inl ⟨by rfl, by intro W hSW; (try dsimp only at hSW); go_simp; try (with_reducible rfl)⟩) hHeld ?_
        try simp only [Act.put, List.getElem_toArray, List.getElem_cons_zero, List.getElem_cons_succ, List.setIfInBounds_toArray, List.set_cons_zero, List.set_cons_succ]
        refine wpAnyH_take (i := 9) rfl (by kernel_rfl) (by kernel_rfl) (by kernel_rfl) (fun _ _ _ h => h) (Or.inl ⟨by rfl, by intro W hSW; (try dsimp only at hSW); go_simp; try (with_reducible rfl)⟩) hHeld ?_
        try simp only [Act.put, List.getElem_toArray, List.getElem_cons_zero, List.getElem_cons_succ, List.setIfInBounds_toArray, List.set_cons_zero, List.set_cons_succ]
        refine wpAnyH_done (by kernel_rfl) ?_ _
        refine NoPanic.normal ?_
        go_wp2_with fail
        go_roundw
        case rel => exact ⟨n + k, by omega, by have := HK.out; omega, rfl, HB3.out, HBE3.out⟩
        case measure => have := HK.out; simp only [intOf]; omega
      · obtain rfl : n = N := by omega
        have e : (fun (i : Nat) => Value.int .i64 v) = fun _ => .int .i64 v := rfl
        have hb9 : Blk wr w.heap.size 3 (arrN n fun _ => .int .i64 v) := by
          have : arrN n (fun i => Value.int .i64 (if i < n then v else 0)) = arrN n fun _ => .int .i64 v := by
            unfold arrN
            congr 1
            refine List.map_congr_left fun i hi => ?_
            rw [if_pos (List.mem_range.1 hi)]
          rw [← this]; exact hb
        clear hb e
        go_wp2
        refine bodyPost_ret (results_tmp rfl _ _ _) rfl ?_
        exact ⟨_, rfl, Nat.le_refl _, hb9, hbel⟩
end Go.Proofs.Ytbcabomblfehlab.By
