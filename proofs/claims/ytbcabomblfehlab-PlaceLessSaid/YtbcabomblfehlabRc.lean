/-
  WALKS of layer 25: Two.
-/
import Derived.Test.YtbcabomblfehlabQl
namespace Go.Proofs.Ytbcabomblfehlab.Bo
open Go.RowKit Go.Maps
open Mem Rf
set_option linter.unusedSimpArgs false
set_option linter.unusedVariables false

theorem wd_blk {α : Type} {k : Nat} {enc : α → List Value} {w : World} {g : Nat} {t : TypeId} {cs : Array Value} {l : List α} (h : Blk w g t cs) (hk : ∀ x, (enc x).length = k) (hcs : cs = (l.flatMap enc).toArray) (hl : l.length ≤ maxLen) :
    Wd k enc w w.heap.size (some ⟨g, 0, none⟩) l.length l.length l :=
  ⟨rfl, Nat.le_refl _, hl, (fun e => by cases e), fun i x hi => ⟨_, rfl, h.lt, fun j u hu => by
    rw [add_twice, add_plain, Nat.zero_add, h.cell, hcs, List.getElem?_toArray]
    exact flat_at hk l i j x u hi hu⟩⟩
def twoC (a : Nat) : List By.In5 := match a with
  | 0 => [(17, 1, 0, 0, 0), (20, 0, 1, 0, 0), (21, 0, 0, 0, 0), (24, 0, 0, 0, 0)]
  | 1 => [(24, 0, 0, 0, 0)]
  | 2 => [(24, 0, 0, 0, 0)]
  | _ => [(19, 0, 0, 0, 0), (24, 0, 0, 0, 0)]
def twoP (N : Nat) : Pgm := ⟨some ⟨N + 16, 0, none⟩, 4, 4, [⟨0, 0, ⟨#[109, 97, 105, 110]⟩, ⟨0, (some ⟨N + 1, 0, none⟩, 2, 2), 0, false, 3, 4, (none, 0, 0), (some ⟨N + 2, 0, none⟩, 4, 4), (some ⟨N + 3, 0, none⟩, 2, 2)⟩, (some ⟨N + 4, 0, none⟩, 4, 4), [1, -1, 2, -1]⟩,
    ⟨0, 1, ⟨#[102]⟩, ⟨0, (none, 0, 0), 10, true, 0, 0, (none, 0, 0), (some ⟨N + 6, 0, none⟩, 1, 1), (none, 0, 0)⟩, (some ⟨N + 7, 0, none⟩, 1, 1), [-1]⟩,
    ⟨0, 2, ⟨#[103]⟩, ⟨0, (none, 0, 0), 70, false, 0, 0, (none, 0, 0), (some ⟨N + 9, 0, none⟩, 1, 1), (none, 0, 0)⟩, (some ⟨N + 10, 0, none⟩, 1, 1), [-1]⟩,
    ⟨0, 3, ⟨#[104]⟩, ⟨0, (none, 0, 0), 0, false, 0, 0, (none, 0, 0), (some ⟨N + 12, 0, none⟩, 2, 2), (some ⟨N + 13, 0, none⟩, 1, 1)⟩, (some ⟨N + 14, 0, none⟩, 2, 2), [3, -1]⟩], none, 0, 0, [], 0, twoC⟩
theorem two_read {W : World} {N : Nat} (hF : Blk W (N + 16) 75 (((twoP N).fs.flatMap encGf).toArray))
    (hc0 : Blk W (N + 2) 93 #[.int .i64 (17), .int .i64 (1), .int .i64 (0), .int .i64 (0), .int .i64 (0), .int .i64 (20), .int .i64 (0), .int .i64 (1), .int .i64 (0), .int .i64 (0), .int .i64 (21), .int .i64 (0), .int .i64 (0), .int .i64 (0), .int .i64 (0), .int .i64 (24), .int .i64 (0), .int .i64 (0), .int .i64 (0), .int .i64 (0)]) (hr0 : Blk W (N + 4) 3 #[.int .i64 (1), .int .i64 (-1), .int .i64 (2), .int .i64 (-1)])
    (hc1 : Blk W (N + 6) 93 #[.int .i64 (24), .int .i64 (0), .int .i64 (0), .int .i64 (0), .int .i64 (0)]) (hr1 : Blk W (N + 7) 3 #[.int .i64 (-1)])
    (hc2 : Blk W (N + 9) 93 #[.int .i64 (24), .int .i64 (0), .int .i64 (0), .int .i64 (0), .int .i64 (0)]) (hr2 : Blk W (N + 10) 3 #[.int .i64 (-1)])
    (hc3 : Blk W (N + 12) 93 #[.int .i64 (19), .int .i64 (0), .int .i64 (0), .int .i64 (0), .int .i64 (0), .int .i64 (24), .int .i64 (0), .int .i64 (0), .int .i64 (0), .int .i64 (0)]) (hr3 : Blk W (N + 14) 3 #[.int .i64 (3), .int .i64 (-1)])
    : PgR W (twoP N) := by
  refine ⟨wd_blk hF encGf_len rfl (by unfold twoP maxLen; simp), Wd.nil, fun a ha => ?_, fun a ha => ?_, by unfold twoP; simp⟩
  · have ha : a < 4 := ha
    have hb : ∀ k, -9223372036854775808 ≤ (By.inAt (twoC a) k).1 ∧ (By.inAt (twoC a) k).1 ≤ 9223372036854775807 := by
      intro k
      have h0 : (By.inAt (twoC a) k) ∈ (twoC a) ∨ (By.inAt (twoC a) k).1 = 0 := by
        unfold By.inAt
        rw [List.getD_eq_getElem?_getD]
        cases h : (twoC a)[k]? with
        | none => right; rfl
        | some x => left; exact List.mem_of_getElem? h
      have h1 : ∀ x ∈ twoC a, 0 ≤ x.1 ∧ x.1 ≤ 100 := by
        have : a = 0 ∨ a = 1 ∨ a = 2 ∨ a = 3 := by omega
        rcases this with rfl | rfl | rfl | rfl <;> decide
      rcases h0 with h0 | h0
      · have := h1 _ h0; omega
      · omega
    have : a = 0 ∨ a = 1 ∨ a = 2 ∨ a = 3 := by omega
    rcases this with rfl | rfl | rfl | rfl
    · exact ⟨wd_blk (k := 5) (enc := By.encIn) (l := twoC 0) hc0 (fun _ => rfl) rfl (by unfold maxLen; decide), wd_blk (k := 1) (enc := encI) (l := [1, -1, 2, -1]) hr0 (fun _ => rfl) rfl (by unfold maxLen; simp), by unfold twoP gfAt; simp, hb⟩
    · exact ⟨wd_blk (k := 5) (enc := By.encIn) (l := twoC 1) hc1 (fun _ => rfl) rfl (by unfold maxLen; decide), wd_blk (k := 1) (enc := encI) (l := [-1]) hr1 (fun _ => rfl) rfl (by unfold maxLen; simp), by unfold twoP gfAt; simp, hb⟩
    · exact ⟨wd_blk (k := 5) (enc := By.encIn) (l := twoC 2) hc2 (fun _ => rfl) rfl (by unfold maxLen; decide), wd_blk (k := 1) (enc := encI) (l := [-1]) hr2 (fun _ => rfl) rfl (by unfold maxLen; simp), by unfold twoP gfAt; simp, hb⟩
    · exact ⟨wd_blk (k := 5) (enc := By.encIn) (l := twoC 3) hc3 (fun _ => rfl) rfl (by unfold maxLen; decide), wd_blk (k := 1) (enc := encI) (l := [3, -1]) hr3 (fun _ => rfl) rfl (by unfold maxLen; simp), by unfold twoP gfAt; simp, hb⟩
  · exact absurd ha (by unfold twoP; simp)

set_option maxRecDepth 100000 in
set_option maxHeartbeats 8000000 in
theorem two25_any (w : World) : Calls Try.prog 23 #[] w fun e w' => e = .returned (pgV (twoP w.heap.size)) ∧ PgR w' (twoP w.heap.size) ∧ Below w.heap.size w w' := by
  have HRD := Lib.hid (fun W => @two_read W w.heap.size)
  go_enter Try.func23, Try.ntmps23
  go_wp2_with fail
  refine bodyPost_ret (v := pgV (twoP w.heap.size)) (by simp [results, Try.results23, go_sem, pgV, twoP]) rfl ⟨rfl, ?_, ?_⟩
  · apply HRD.out
    all_goals (repeat' (first | exact By.Blk.at_ _ _ (by (try simp only [World.size_alloc]); (first | done | omega)) | refine Blk.alloc ?_ _))
  · repeat' (first | exact Below.refl _ _ | refine Below.alloc ?_ (by (try simp only [World.size_alloc]); (first | done | omega)) _)
end Go.Proofs.Ytbcabomblfehlab.Bo
