/-
  WALKS of layer 11: a trail in memory: newTrail, enter.
-/
import Derived.Test.YtlfgnoicjogfpaaCm
import Derived.Test.YtlfgnoicjogfpaaCb
import Derived.Test.YtlfgnoicjogfpaaGi
import Derived.Lib.Builder
import Derived.Maps.AppendAt
namespace Go.Proofs.Ytlfgnoicjogfpaa.By
set_option linter.unusedSimpArgs false
open Go.RowKit
open Mem Gm Rf Cy

def arrN (N : Nat) (f : Nat → Value) : Array Value := ((List.range N).map f).toArray
theorem arrN_size (N : Nat) (f : Nat → Value) : (arrN N f).size = N := by simp [arrN]
theorem arrN_at {N : Nat} (f : Nat → Value) {i : Nat} (h : i < N) : (arrN N f)[i]? = some (f i) := by simp [arrN, h]
theorem arrN_set {N : Nat} (f : Nat → Value) (i : Nat) (u : Value) : (arrN N f).setIfInBounds i u = arrN N (fun j => if j = i then u else f j) := by
  apply Array.ext
  · simp [arrN]
  · intro j h1 h2
    have hj : j < N := by simpa [arrN] using h2
    rw [Array.getElem_setIfInBounds (by rw [arrN_size]; exact hj)]
    by_cases e : i = j
    · subst e; simp [arrN]
    · have e2 : ¬ j = i := fun h => e h.symm
      simp [arrN, e, e2]
theorem arrN_rep (N : Nat) (u : Value) : Array.replicate N u = arrN N fun _ => u := by
  apply Array.ext
  · simp [arrN]
  · intro j h1 h2; simp [arrN]

theorem make_ints (n : Nat) (hn : n ≤ 1000) (W : World) : (Instr.makeSlice 26 (.int .i64 (n : Int)) (.int .i64 (n : Int))).run Try.prog W = .ok (.slice (some ⟨W.heap.size, 0, none⟩) n n) (W.alloc (.cells (Array.replicate n (.int .i64 0)) 3)) := by
  obtain ⟨i, hi, hz0, hz1, hz2⟩ := info_parts infoI
  have := run_make (P := Try.prog) W 26 3 i (.int .i64 0) Try.underlying26 hi hz0 .i64 .i64 (n : Int) (n : Int) (by omega) (by omega) (by rw [hz2]; omega) (by omega)
  rw [this, hz1]
  simp only [Int.toNat_natCast, Nat.mul_one]
  have e : madeCells (Value.int .i64 0).cells n = Array.replicate n (.int .i64 0) := by
    apply Array.ext
    · simp [madeCells, Value.cells]
    · intro i h1 h2
      simp [madeCells, Value.cells, Nat.mod_one]
  rw [e]

/-- A trail in memory. -/
structure TrM (w : World) (B tb bb eb N : Nat) (Ag : Option Addr) (cg : Nat) (gL : List (List Int)) (been : Nat → Bool) (ed : Nat → Nat) : Prop where
  blk : Blk w tb 173 #[.slice Ag N cg, .slice (some ⟨bb, 0, none⟩) N N, .slice (some ⟨eb, 0, none⟩) N N]
  bk : Blk w bb 4 (arrN N fun i => .bool (been i))
  ek : Blk w eb 3 (arrN N fun i => .int .i64 (ed i : Int))
  gr : Gr w B (.slice Ag N cg) gL
  tb_bb : tb ≠ bb
  tb_eb : tb ≠ eb
  bb_eb : bb ≠ eb
  ltb : B ≤ tb
  lbb : B ≤ bb
  leb : B ≤ eb

theorem TrM.mut {w : World} {B tb bb eb N : Nat} {Ag : Option Addr} {cg : Nat} {gL : List (List Int)} {been : Nat → Bool} {ed : Nat → Nat} (h : TrM w B tb bb eb N Ag cg gL been ed) (p : Nat) (_hb : been p = false) : TrM (w.setCell ⟨bb, p, none⟩ (.bool true)) B tb bb eb N Ag cg gL (updB been p) ed where
  blk := (((Keeps.refl (fun k => k ≠ bb) w).setCell (p := ⟨bb, p, none⟩) (fun h => h rfl) (.bool true)).block tb h.tb_bb h.blk.lt).trans h.blk
  bk := by
    have := h.bk.stored p (.bool true)
    rw [arrN_set] at this
    have e : (fun j => if j = p then Value.bool true else .bool (been j)) = fun i => .bool (updB been p i) := funext fun j => by
      by_cases hj : j = p
      · subst hj; simp [updB]
      · simp [updB, hj]
    rw [e] at this; exact this
  ek := (((Keeps.refl (fun k => k ≠ bb) w).setCell (p := ⟨bb, p, none⟩) (fun h => h rfl) (.bool true)).block eb (Ne.symm h.bb_eb) h.ek.lt).trans h.ek
  gr := h.gr.below (((Below.refl B w)).setCell h.lbb _)
  tb_bb := h.tb_bb
  tb_eb := h.tb_eb
  bb_eb := h.bb_eb
  ltb := h.ltb
  lbb := h.lbb
  leb := h.leb
theorem TrM.keep {w w' : World} {B tb bb eb N : Nat} {Ag : Option Addr} {cg : Nat} {gL : List (List Int)} {been : Nat → Bool} {ed : Nat → Nat} (h : TrM w B tb bb eb N Ag cg gL been ed) {U : Nat → Prop} (hk : Keeps U w w') (hB : B ≤ w.heap.size) (hU : ∀ k, k < B ∨ k = tb ∨ k = bb ∨ k = eb → U k) : TrM w' B tb bb eb N Ag cg gL been ed where
  blk := (hk.block _ (hU _ (.inr (.inl rfl))) h.blk.lt).trans h.blk
  bk := (hk.block _ (hU _ (.inr (.inr (.inl rfl)))) h.bk.lt).trans h.bk
  ek := (hk.block _ (hU _ (.inr (.inr (.inr rfl)))) h.ek.lt).trans h.ek
  gr := h.gr.below (hk.below hB fun k hk => hU k (.inl hk))
  tb_bb := h.tb_bb
  tb_eb := h.tb_eb
  bb_eb := h.bb_eb
  ltb := h.ltb
  lbb := h.lbb
  leb := h.leb
theorem TrM.alloc {w : World} {B tb bb eb N : Nat} {Ag : Option Addr} {cg : Nat} {gL : List (List Int)} {been : Nat → Bool} {ed : Nat → Nat} (h : TrM w B tb bb eb N Ag cg gL been ed) (o : Obj) : TrM (w.alloc o) B tb bb eb N Ag cg gL been ed :=
  h.keep (U := fun _ => True) ((Keeps.refl _ w).alloc o) (Nat.le_trans h.ltb (Nat.le_of_lt h.blk.lt)) fun _ _ => trivial

/-- What enter answers at a place that is new. -/
def EntAns (w : World) (B tb bb eb N : Nat) (Ag : Option Addr) (cg : Nat) (gL : List (List Int)) (been : Nat → Bool) (ed : Nat → Nat) (base : Nat) (v : Value) (st : List Nat) (p : Nat) (e : Ending) (w' : World) : Prop :=
  ∃ v', e = .returned v' ∧ w'.ownsRow base 3 1 v' (st.length + 1) (nats (p :: st).reverse) ∧ TrM w' B tb bb eb N Ag cg gL (updB been p) ed ∧ (v'.ownBlock = v.ownBlock ∨ ∃ k, v'.ownBlock = some k ∧ w.heap.size ≤ k) ∧ Keeps (fun k => k ≠ bb ∧ v.ownBlock ≠ some k) w w'

/-- A new trail, whichever of its lists was made first. -/
theorem tr_new (f : Bool) (w : World) (B N : Nat) (A : Option Addr) (c : Nat) (gL : List (List Int)) (_hs : N ≤ 1000) (hG : Gr w B (.slice A N c) gL) (hB : B ≤ w.heap.size) : ∀ (b1 b2 : Nat) (o1 o2 : Obj) (_ : b1 = if f then w.heap.size else w.heap.size + 1) (_ : b2 = if f then w.heap.size + 1 else w.heap.size)
    (_ : o1 = if f then .cells (Array.replicate N (.bool false)) 4 else .cells (Array.replicate N (.int .i64 0)) 3) (_ : o2 = if f then .cells (Array.replicate N (.int .i64 0)) 3 else .cells (Array.replicate N (.bool false)) 4) (W : World) (_ : W = (((w.alloc o1).alloc o2).alloc (.cells #[.slice A N c, .slice (some ⟨b1, 0, none⟩) N N, .slice (some ⟨b2, 0, none⟩) N N] 173)).drew),
    ∃ tb bb eb, (Ending.returned (.pointer (some ⟨w.heap.size + 1 + 1, 0, none⟩)) : Ending) = .returned (.pointer (some ⟨tb, 0, none⟩)) ∧ TrM W B tb bb eb N A c gL (fun _ => false) (fun _ => 0) ∧ w.heap.size ≤ tb ∧ w.heap.size ≤ bb ∧ w.heap.size ≤ eb ∧ Below w.heap.size w W := by
  rintro b1 b2 o1 o2 h1 h2 h3 h4 W hW
  have hbel : Below w.heap.size w W := by
    rw [hW]
    have h := (((Below.refl _ w).alloc (Nat.le_refl _) o1).alloc (by simp) o2).alloc (by simp; omega) (.cells #[.slice A N c, .slice (some ⟨b1, 0, none⟩) N N, .slice (some ⟨b2, 0, none⟩) N N] 173)
    exact ⟨h.os, h.tape, h.output, h.size, h.block⟩
  have hblk : Blk W (w.heap.size + 1 + 1) 173 #[.slice A N c, .slice (some ⟨b1, 0, none⟩) N N, .slice (some ⟨b2, 0, none⟩) N N] := by
    rw [hW]
    have := Blk.new ((w.alloc o1).alloc o2) 173 #[.slice A N c, .slice (some ⟨b1, 0, none⟩) N N, .slice (some ⟨b2, 0, none⟩) N N]
    rw [World.size_alloc, World.size_alloc] at this
    exact this
  cases f with
  | true =>
    simp only [if_true] at h1 h2 h3 h4
    subst h1 h2 h3 h4
    refine ⟨_, _, _, rfl, ⟨hblk, ?_, ?_, hG.below (hbel.mono hB), by omega, by omega, by omega, by omega, by omega, by omega⟩, by omega, by omega, by omega, hbel⟩
    · rw [hW, ← arrN_rep]
      exact ((Blk.new w 4 (Array.replicate N (.bool false))).alloc _).alloc _
    · have := (Blk.new (w.alloc (.cells (Array.replicate N (.bool false)) 4)) 3 (Array.replicate N (.int .i64 0))).alloc (.cells #[.slice A N c, .slice (some ⟨w.heap.size, 0, none⟩) N N, .slice (some ⟨w.heap.size + 1, 0, none⟩) N N] 173)
      rw [World.size_alloc] at this
      rw [hW, ← arrN_rep]
      exact this
  | false =>
    simp only [Bool.false_eq_true, if_false] at h1 h2 h3 h4
    subst h1 h2 h3 h4
    refine ⟨_, _, _, rfl, ⟨hblk, ?_, ?_, hG.below (hbel.mono hB), by omega, by omega, by omega, by omega, by omega, by omega⟩, by omega, by omega, by omega, hbel⟩
    · have := (Blk.new (w.alloc (.cells (Array.replicate N (.int .i64 0)) 3)) 4 (Array.replicate N (.bool false))).alloc (.cells #[.slice A N c, .slice (some ⟨w.heap.size + 1, 0, none⟩) N N, .slice (some ⟨w.heap.size, 0, none⟩) N N] 173)
      rw [World.size_alloc] at this
      rw [hW, ← arrN_rep]
      exact this
    · have := ((Blk.new w 3 (Array.replicate N (.int .i64 0))).alloc (.cells (Array.replicate N (.bool false)) 4)).alloc (.cells #[.slice A N c, .slice (some ⟨w.heap.size + 1, 0, none⟩) N N, .slice (some ⟨w.heap.size, 0, none⟩) N N] 173)
      rw [hW, ← arrN_rep]
      exact this

set_option maxRecDepth 100000 in
set_option maxHeartbeats 4000000 in
theorem newTrail_any (A : Option Addr) (c B N : Nat) (gL : List (List Int)) (w : World) (hG : Gr w B (.slice A N c) gL) (hB : B ≤ w.heap.size) (hs : N ≤ 1000) :
    Calls Try.prog 113 #[.slice A N c] w fun e w' => ∃ tb bb eb, e = .returned (.pointer (some ⟨tb, 0, none⟩)) ∧ TrM w' B tb bb eb N A c gL (fun _ => false) (fun _ => 0) ∧ w.heap.size ≤ tb ∧ w.heap.size ≤ bb ∧ w.heap.size ≤ eb ∧ Below w.heap.size w w' := by
  have hmk := make_bools N hs
  have hmi := make_ints N hs
  have HG := Lib.hid hG
  clear hG
  go_enter Try.func113, Try.ntmps113
  -- NT
  go_wp2_with fail
  refine wp_region_noPanic ?_
  refine wp_region_held_drew (S := fun _ => True) (by kernel_rfl) (trivial) (fun hHeld => ?_)
  refine wpAnyH_take (i := 0) rfl (by kernel_rfl) (by kernel_rfl) (by kernel_rfl) (fun _ _ _ h => h) (Or.inl ⟨by rfl, by intro W hSW; (try dsimp only at hSW); go_simp; try (with_reducible rfl)⟩) hHeld ?_
  try simp only [Act.put, List.getElem_toArray, List.getElem_cons_zero, List.getElem_cons_succ, List.setIfInBounds_toArray, List.set_cons_zero, List.set_cons_succ]
  refine wpAnyH_take (i := 1) rfl (by kernel_rfl) (by kernel_rfl) (by kernel_rfl) (fun _ _ _ h => h) (Or.inl ⟨by rfl, by intro W hSW; (try dsimp only at hSW); go_simp; try (with_reducible rfl)⟩) hHeld ?_
  try simp only [Act.put, List.getElem_toArray, List.getElem_cons_zero, List.getElem_cons_succ, List.setIfInBounds_toArray, List.set_cons_zero, List.set_cons_succ]
  refine wpAnyH_take (i := 4) rfl (by kernel_rfl) (by kernel_rfl) (by kernel_rfl) (fun _ _ _ h => h) (Or.inl ⟨by rfl, by intro W hSW; (try dsimp only at hSW); go_simp; try (with_reducible rfl)⟩) hHeld ?_
  try simp only [Act.put, List.getElem_toArray, List.getElem_cons_zero, List.getElem_cons_succ, List.setIfInBounds_toArray, List.set_cons_zero, List.set_cons_succ]
  refine wpAnyH_take (i := 2) rfl (by kernel_rfl) (by kernel_rfl) (by kernel_rfl) (fun _ _ _ h => h) (Or.inl ⟨by rfl, by intro W hSW; (try dsimp only at hSW); go_simp; try (with_reducible rfl)⟩) hHeld ?_
  try simp only [Act.put, List.getElem_toArray, List.getElem_cons_zero, List.getElem_cons_succ, List.setIfInBounds_toArray, List.set_cons_zero, List.set_cons_succ]
  refine wpAnyH_take (i := 5) rfl (by kernel_rfl) (by kernel_rfl) (by kernel_rfl) (fun _ _ _ h => h) (Or.inl ⟨by rfl, by intro W hSW; (try dsimp only at hSW); go_simp; try (with_reducible rfl)⟩) hHeld ?_
  try simp only [Act.put, List.getElem_toArray, List.getElem_cons_zero, List.getElem_cons_succ, List.setIfInBounds_toArray, List.set_cons_zero, List.set_cons_succ]
  refine wpAnyH_ready (rs := [3, 6]) (by kernel_rfl) (by simp) ?_
  refine AllReadyH.cons rfl (fun K hK => ?_) (AllReadyH.cons rfl (fun K hK => ?_) AllReadyH.nil)
  · go_simp
    try simp only [hmk, hmi]
    try go_wp2_with fail
    refine hK.out _ _ trivial ?_
    clear hK K hHeld
    intro hHeld
    try simp only [Act.put, List.getElem_toArray, List.getElem_cons_zero, List.getElem_cons_succ, List.setIfInBounds_toArray, List.set_cons_zero, List.set_cons_succ]
    refine wpAnyH_ready (rs := [6]) (by kernel_rfl) (by simp) ?_
    refine AllReadyH.cons rfl (fun K hK => ?_) AllReadyH.nil
    go_simp
    try simp only [hmk, hmi]
    try go_wp2_with fail
    refine hK.out _ _ trivial ?_
    clear hK K hHeld
    intro hHeld
    try simp only [Act.put, List.getElem_toArray, List.getElem_cons_zero, List.getElem_cons_succ, List.setIfInBounds_toArray, List.set_cons_zero, List.set_cons_succ]
    refine wpAnyH_take (i := 7) rfl (by kernel_rfl) (by kernel_rfl) (by kernel_rfl) (fun _ _ _ h => h) (Or.inl ⟨by rfl, by intro W hSW; (try dsimp only at hSW); go_simp; try (with_reducible rfl)⟩) hHeld ?_
    try simp only [Act.put, List.getElem_toArray, List.getElem_cons_zero, List.getElem_cons_succ, List.setIfInBounds_toArray, List.set_cons_zero, List.set_cons_succ]
    refine wpAnyH_ready (rs := [8]) (by kernel_rfl) (by simp) ?_
    refine AllReadyH.cons rfl (fun K hK => ?_) AllReadyH.nil
    go_simp
    try go_wp2_with fail
    refine hK.out _ _ trivial ?_
    clear hK K hHeld
    intro hHeld
    try simp only [Act.put, List.getElem_toArray, List.getElem_cons_zero, List.getElem_cons_succ, List.setIfInBounds_toArray, List.set_cons_zero, List.set_cons_succ]
    refine wpAnyH_take (i := 9) rfl (by kernel_rfl) (by kernel_rfl) (by kernel_rfl) (fun _ _ _ h => h) (Or.inl ⟨by rfl, by intro W hSW; (try dsimp only at hSW); go_simp; try (with_reducible rfl)⟩) hHeld ?_
    try simp only [Act.put, List.getElem_toArray, List.getElem_cons_zero, List.getElem_cons_succ, List.setIfInBounds_toArray, List.set_cons_zero, List.set_cons_succ]
    refine wpAnyH_done (by kernel_rfl) ?_ _
    refine NoPanic.normal ?_
    go_wp2_with fail
    go_ret
    exact tr_new true w B N A c gL hs HG.out hB _ _ _ _ rfl rfl rfl rfl _ rfl
  · go_simp
    try simp only [hmk, hmi]
    try go_wp2_with fail
    refine hK.out _ _ trivial ?_
    clear hK K hHeld
    intro hHeld
    try simp only [Act.put, List.getElem_toArray, List.getElem_cons_zero, List.getElem_cons_succ, List.setIfInBounds_toArray, List.set_cons_zero, List.set_cons_succ]
    refine wpAnyH_ready (rs := [3]) (by kernel_rfl) (by simp) ?_
    refine AllReadyH.cons rfl (fun K hK => ?_) AllReadyH.nil
    go_simp
    try simp only [hmk, hmi]
    try go_wp2_with fail
    refine hK.out _ _ trivial ?_
    clear hK K hHeld
    intro hHeld
    try simp only [Act.put, List.getElem_toArray, List.getElem_cons_zero, List.getElem_cons_succ, List.setIfInBounds_toArray, List.set_cons_zero, List.set_cons_succ]
    refine wpAnyH_take (i := 7) rfl (by kernel_rfl) (by kernel_rfl) (by kernel_rfl) (fun _ _ _ h => h) (Or.inl ⟨by rfl, by intro W hSW; (try dsimp only at hSW); go_simp; try (with_reducible rfl)⟩) hHeld ?_
    try simp only [Act.put, List.getElem_toArray, List.getElem_cons_zero, List.getElem_cons_succ, List.setIfInBounds_toArray, List.set_cons_zero, List.set_cons_succ]
    refine wpAnyH_ready (rs := [8]) (by kernel_rfl) (by simp) ?_
    refine AllReadyH.cons rfl (fun K hK => ?_) AllReadyH.nil
    go_simp
    try go_wp2_with fail
    refine hK.out _ _ trivial ?_
    clear hK K hHeld
    intro hHeld
    try simp only [Act.put, List.getElem_toArray, List.getElem_cons_zero, List.getElem_cons_succ, List.setIfInBounds_toArray, List.set_cons_zero, List.set_cons_succ]
    refine wpAnyH_take (i := 9) rfl (by kernel_rfl) (by kernel_rfl) (by kernel_rfl) (fun _ _ _ h => h) (Or.inl ⟨by rfl, by intro W hSW; (try dsimp only at hSW); go_simp; try (with_reducible rfl)⟩) hHeld ?_
    try simp only [Act.put, List.getElem_toArray, List.getElem_cons_zero, List.getElem_cons_succ, List.setIfInBounds_toArray, List.set_cons_zero, List.set_cons_succ]
    refine wpAnyH_done (by kernel_rfl) ?_ _
    refine NoPanic.normal ?_
    go_wp2_with fail
    go_ret
    exact tr_new false w B N A c gL hs HG.out hB _ _ _ _ rfl rfl rfl rfl _ rfl

set_option maxRecDepth 100000 in
set_option maxHeartbeats 4000000 in
theorem enter_old (w : World) (B tb bb eb N : Nat) (Ag : Option Addr) (cg : Nat) (gL : List (List Int)) (been : Nat → Bool) (ed : Nat → Nat) (h : TrM w B tb bb eb N Ag cg gL been ed) (v : Value) (p : Nat) (hp : p < N) (hb : been p = true) :
    Calls Try.prog 145 #[.pointer (some ⟨tb, 0, none⟩), v, .int .i64 (p : Int)] w fun e w' => e = .returned v ∧ w = w' := by
  have c1 : w.cell? ⟨tb, 1, none⟩ = some (.slice (some ⟨bb, 0, none⟩) N N) := by rw [h.blk.cell]; rfl
  have c2 : w.cell? ⟨bb, p, none⟩ = some (.bool true) := by rw [h.bk.cell, arrN_at _ hp, hb]
  have hpI : (p : Int) < (N : Int) := by omega
  have hp0 : (0 : Int) ≤ (p : Int) := by omega
  clear h hb
  go_enter Try.func145, Try.ntmps145
  go_wp2
  go_ret
  exact ⟨rfl, rfl⟩

set_option maxRecDepth 100000 in
set_option maxHeartbeats 4000000 in
theorem enter_new (w : World) (B tb bb eb N : Nat) (Ag : Option Addr) (cg : Nat) (gL : List (List Int)) (been : Nat → Bool) (ed : Nat → Nat) (h : TrM w B tb bb eb N Ag cg gL been ed) (base : Nat) (v : Value) (st : List Nat) (hv : w.ownsRow base 3 1 v st.length (nats st.reverse)) (hbase : tb < base ∧ bb < base ∧ eb < base ∧ B ≤ base ∧ base ≤ w.heap.size) (hl : st.length ≤ 1000) (p : Nat) (hp : p < N) (hb : been p = false) :
    Calls Try.prog 145 #[.pointer (some ⟨tb, 0, none⟩), v, .int .i64 (p : Int)] w (EntAns w B tb bb eb N Ag cg gL been ed base v st p) := by
  have c1 : w.cell? ⟨tb, 1, none⟩ = some (.slice (some ⟨bb, 0, none⟩) N N) := by rw [h.blk.cell]; rfl
  have c2 : w.cell? ⟨bb, p, none⟩ = some (.bool false) := by rw [h.bk.cell, arrN_at _ hp, hb]
  have f2 : w.frozen? ⟨bb, p, none⟩ = false := h.bk.frozen p
  have hpI : (p : Int) < (N : Int) := by omega
  have hp0 : (0 : Int) ≤ (p : Int) := by omega
  obtain ⟨i0, hi, hz0, hz1, hz2⟩ := info_parts infoI
  obtain ⟨w1, hw1⟩ : ∃ w1, (w.setCell ⟨bb, p, none⟩ (.bool true)).alloc (.cells #[.int .i64 (p : Int)] 3) = w1 := ⟨_, rfl⟩
  have hk1 : Keeps (fun k => k ≠ bb) w w1 := by rw [← hw1]; exact ((Keeps.refl _ w).setCell (fun h => h rfl) _).alloc _
  have hblt := h.bk.lt
  have hmut := h.mut p hb
  have HT1 := Lib.hid (show TrM w1 B tb bb eb N Ag cg gL (updB been p) ed by rw [← hw1]; exact (h.mut p hb).alloc _)
  have HH := Lib.hid h
  have HV := Lib.hid hv
  have HK1 := Lib.hid hk1
  have HO1 := Lib.hid (own_keep (w' := w1) hv fun g hg hlt _ => hk1.block g (by omega) hlt)
  have D3 := Lib.hid (show base ≤ w1.heap.size from Nat.le_trans hbase.2.2.2.2 hk1.size)
  have D1 := Lib.hid (show st.length + 1 ≤ maxLen by unfold maxLen; omega)
  have D2 := Lib.hid (show (st.length + 1) * 8 ≤ 140737488355328 by omega)
  have HC1 := Lib.hid (show ∀ (j : Nat) (u : Value), [Value.int .i64 (p : Int)][j]? = some u → w1.cell? ((⟨w.heap.size, 0, none⟩ : Addr).add j) = some u from fun j u hu => by
    have hj : j = 0 := by have := (List.getElem?_eq_some_iff.1 hu).1; simpa using this
    subst hj
    have hu2 : Value.int .i64 (p : Int) = u := by simpa using hu
    subst hu2
    rw [show (⟨w.heap.size, 0, none⟩ : Addr).add 0 = ⟨w.heap.size, 0, none⟩ by simp [Addr.add], ← hw1]
    have := (Blk.new (w.setCell ⟨bb, p, none⟩ (.bool true)) 3 #[.int .i64 (p : Int)]).cell 0
    rw [show (w.setCell ⟨bb, p, none⟩ (.bool true)).heap.size = w.heap.size by simp [World.setCell]] at this
    exact this.trans rfl)
  have H1C := Lib.hid (show ∀ u ∈ [Value.int .i64 (p : Int)], u.oneCell' = true from fun u hu => by
    rw [List.mem_singleton] at hu; subst hu; rfl)
  have HW := Lib.hid hw1
  have HBs := Lib.hid hbase
  have HS1 := Lib.hid (show w.heap.size ≤ w1.heap.size from hk1.size)
  clear h hb hv hk1 hw1 hmut hbase
  go_enter Try.func145, Try.ntmps145
  go_wp2_with (at_builtin; rw [HW.out]; refine wpList_append_own_at _ rfl (.tmp 21) (.tmp 23) 26 rfl base 3 i0 (.int .i64 0) 1 8 Try.underlying26 hi hz0 hz1 hz2 rfl Nat.one_pos v st.length (nats st.reverse) rfl HO1.out ⟨w.heap.size, 0, none⟩ 1 1 [.int .i64 (p : Int)] rfl rfl HC1.out H1C.out D1.out D2.out D3.out ?_; intro v2 w2 hown2 hg2 _ hat2)
  have hk2 : Keeps (fun k => k ≠ bb ∧ v.ownBlock ≠ some k) w w2 := (HK1.out.mono fun k hk _ => hk.1).grown hg2 fun r hr h => h.2 hr
  have ht2 : TrM w2 B tb bb eb N Ag cg gL (updB been p) ed := HT1.out.keep (U := fun k => v.ownBlock ≠ some k) ((Keeps.refl _ w1).grown hg2 fun r hr h => h hr) (by have := HBs.out; have := HS1.out; omega) (fun k hk h => by have := (HO1.out.lt k h).1; have := HBs.out; omega)
  have hn : nats (p :: st).reverse = nats st.reverse ++ [Value.int .i64 (p : Int)] := by simp [nats]
  go_ret
  refine ⟨v2, rfl, by rw [hn]; exact hown2, ht2, ?_, hk2⟩
  rcases hat2 with h | h
  · exact .inl h
  · exact .inr ⟨_, h, HS1.out⟩
end Go.Proofs.Ytlfgnoicjogfpaa.By
