/-
  WALKS of layer 13: Rows, and the document's own.
-/
import Derived.Test.YtckpbdphilifoaaWh
import Derived.Laws.MakeOwn
namespace Go.Proofs.Ytckpbdphilifoaa.By
open Go.RowKit
open Mem Gm Rf
set_option linter.unusedSimpArgs false

def arrN (N : Nat) (f : Nat → Value) : Array Value := ((List.range N).map f).toArray
theorem arrN_size (N : Nat) (f : Nat → Value) : (arrN N f).size = N := by simp [arrN]
theorem arrN_at {N : Nat} (f : Nat → Value) {i : Nat} (h : i < N) : (arrN N f)[i]? = some (f i) := by simp [arrN, h]
theorem arrN_set {N : Nat} (f : Nat → Value) (i : Nat) (u : Value) : (arrN N f).setIfInBounds i u = arrN N (fun j => if j = i then u else f j) := by
  apply Array.ext
  · simp [arrN]
  · intro j h1 h2
    have hj : j < N := by simpa [arrN] using h2
    rw [Array.getElem_setIfInBounds (by rw [arrN_size]; exact hj)]
    by_cases e : i = j
    · subst e; simp [arrN]
    · have e2 : ¬ j = i := fun h => e h.symm
      simp [arrN, e, e2]
theorem arrN_rep (N : Nat) (u : Value) : Array.replicate N u = arrN N fun _ => u := by
  apply Array.ext
  · simp [arrN]
  · intro j h1 h2; simp [arrN]

/-- How many places' rows are told. -/
def cntP (p : Int) : Nat := (min (max p 0) 4096).toNat
def rowsT (l : List Rn) (k : Nat) : List Ro := (List.range k).map fun (i : Nat) => rowV l (i : Int)
theorem rowsT_next (l : List Rn) (k : Nat) : rowsT l (k + 1) = rowsT l k ++ [rowV l (k : Int)] := by unfold rowsT; rw [List.range_succ]; simp
theorem rowsT_len (l : List Rn) (k : Nat) : (rowsT l k).length = k := by simp [rowsT]

def WAns (w : World) (N : Nat) (l : List Ro) (e : Ending) (w' : World) : Prop := ∃ A c, e = .returned (.slice A N c) ∧ RoL w' A N c l ∧ Below w.heap.size w w'

set_option maxRecDepth 100000 in
set_option maxHeartbeats 4000000 in
theorem rrows_any (w : World) (A : Option Addr) (n c : Nat) (l : List Rn) (p : Int) (h : RnL w A n c l) :
    Calls Try.prog 15 #[.slice A n c, .int .i64 p] w (WAns w (cntP p) (rowsT l (cntP p))) := by
  obtain ⟨i0, hi, hz0, hz1, hz2⟩ := info_parts infoRo
  have HR := Lib.hid (fun W (hb : Below w.heap.size w W) (i : Int) => rat_any W i A n c l (h.on hb))
  obtain ⟨N, hN⟩ : ∃ N, cntP p = N := ⟨_, rfl⟩
  have hN1 : ∀ k : Nat, k < N → (k : Int) < p ∧ (k : Int) < 4096 := fun k hk => by rw [← hN] at hk; unfold cntP at hk; omega
  have hN2 : ¬ (N : Int) < p ∨ ((N : Int) < p ∧ ¬ (N : Int) < 4096) := by rw [← hN]; unfold cntP; omega
  have hN3 : N ≤ 4096 := by rw [← hN]; unfold cntP; omega
  have HN1 := Lib.hid hN1
  have HN2 := Lib.hid hN2
  have HN3 := Lib.hid hN3
  rw [hN]
  clear h hN hN1 hN2
  go_enter Try.func15, Try.ntmps15
  go_wp2_with fail
  go_loopw [5, 6] (fun v i wr => ∃ k : Nat, k ≤ N ∧ i = .int .i64 (k : Int) ∧ wr.ownsRow w.heap.size 33 4 v k (flRo (rowsT l k)) ∧ Below w.heap.size w wr) (fun _ i _ => N - (intOf i).toNat)
  case atStart => exact ⟨0, Nat.zero_le _, rfl, World.ownsRow_nil _ _ _ _, Below.refl _ _⟩
  case round =>
    obtain ⟨k, hk, rfl, hown, hbel⟩ := hrel
    have HBE := Lib.hid hbel
    have HOW := Lib.hid hown
    by_cases hlt : k < N
    · obtain ⟨h1, h2⟩ := HN1.out k hlt
      have hk9 : k ≤ 4096 := by omega
      have HA := Lib.hid (HR.out wr hbel (k : Int))
      have HX := Lib.hid (rowsT_next l k)
      obtain ⟨x, hx⟩ : ∃ x, rowV l (k : Int) = x := ⟨_, rfl⟩
      unfold AtAns aggRo at HA
      rw [hx] at HA HX
      generalize hasV l (k : Int) = bl at HA
      clear hown hbel hx
      go_wp2_with (first
        | (go_at_call 17; refine HA.out.mono ?_; rintro e w2 ⟨rfl, b2⟩; have HB2 := Lib.hid b2; clear b2)
        | (at_builtin; go_loud (refine wpList_append_own _ rfl _ _ 22 rfl w.heap.size 33 i0 (.agg #[.int .i64 0, .int .i64 0, .bool false, .int .i64 0]) 4 32 Try.underlying22 hi hz0 hz1 hz2 rfl (by decide) _ _ _ rfl (ownk_keep HOW.out fun g _ hg => (Below.heap_alloc _ _ _ (Nat.lt_of_lt_of_le hg (Nat.le_trans HB2.out.size (alloc_ w2 _).size))).trans ((Below.heap_alloc _ _ _ (Nat.lt_of_lt_of_le hg HB2.out.size)).trans (HB2.out.block g hg))) ⟨w2.heap.size + 1, 0, none⟩ 1 1 (encRo x) rfl rfl (fun j u hu => by rw [add_plain, Nat.zero_add]; have h9 := (Blk.new (w2.alloc (.cells #[.int .i64 x.1, .int .i64 x.2.1, .bool x.2.2.1, .int .i64 x.2.2.2] 33)) 33 #[.int .i64 x.1, .int .i64 x.2.1, .bool x.2.2.1, .int .i64 x.2.2.2]).cell j; rw [World.size_alloc] at h9; exact h9.trans (by simpa [encRo] using hu)) (by simp [encRo, Value.oneCell']) (by unfold maxLen; omega) (by omega) (by have := HBE.out.size; have := HB2.out.size; simp; omega) ?_; intro v' w4 h2 h3 h4; clear h4; rw [flRo_snoc] at h2; have H2 := Lib.hid h2; have H3 := Lib.hid h3; clear h2 h3)))
      go_roundw
      case rel =>
        have hbA : Below w.heap.size w ((w2.alloc (.cells #[.int .i64 x.1, .int .i64 x.2.1, .bool x.2.2.1, .int .i64 x.2.2.2] 33)).alloc (.cells #[.int .i64 x.1, .int .i64 x.2.1, .bool x.2.2.1, .int .i64 x.2.2.2] 33)) := to_ (to_ (to_ HBE.out HB2.out) (alloc_ _ _)) (alloc_ _ _)
        refine ⟨k + 1, by omega, by go_num, ?_, hbA.grown H3.out hbA.size fun r e => (HOW.out.lt r e).1⟩
        rw [HX.out]
        exact H2.out
      case measure => simp [intOf]; omega
    · obtain rfl : k = N := by omega
      obtain ⟨A2, c2, rfl, hl⟩ := RoL.own (rowsT_len l k) hown
      have HL := Lib.hid hl
      clear hown hbel hl
      rcases HN2.out with h1 | ⟨h1, h2⟩
      · go_wp2_with fail
        go_ret
        exact ⟨A2, c2, rfl, HL.out, HBE.out⟩
      · go_wp2_with fail
        go_ret
        exact ⟨A2, c2, rfl, HL.out, HBE.out⟩

def cellRo (r : Ro) (j : Nat) : Value := if j = 0 then .int .i64 r.1 else if j = 1 then .int .i64 r.2.1 else if j = 2 then .bool r.2.2.1 else .int .i64 r.2.2.2
/-- The cells of so many rows. -/
def arrRo (N : Nat) (G : Nat → Ro) : Array Value := arrN (N * 4) fun j => cellRo (G (j / 4)) (j % 4)
def updRo (G : Nat → Ro) (k : Nat) (x : Ro) : Nat → Ro := fun i => if i = k then x else G i

theorem arrRo_set (N : Nat) (G : Nat → Ro) (k : Nat) (x : Ro) : ((((arrRo N G).setIfInBounds (k * 4) (.int .i64 x.1)).setIfInBounds (k * 4 + 1) (.int .i64 x.2.1)).setIfInBounds (k * 4 + 2) (.bool x.2.2.1)).setIfInBounds (k * 4 + 3) (.int .i64 x.2.2.2) = arrRo N (updRo G k x) := by
  unfold arrRo
  rw [arrN_set, arrN_set, arrN_set, arrN_set]
  congr 1
  funext j
  by_cases e : j / 4 = k
  · have hj : j = k * 4 + j % 4 := by omega
    have h4 : j % 4 < 4 := Nat.mod_lt _ (by omega)
    have hu : updRo G k x (j / 4) = x := by unfold updRo; rw [if_pos e]
    rw [hu]
    generalize j % 4 = t at hj h4
    subst hj
    have ht : t = 0 ∨ t = 1 ∨ t = 2 ∨ t = 3 := by omega
    rcases ht with rfl | rfl | rfl | rfl
    · rw [if_neg (by omega), if_neg (by omega), if_neg (by omega), if_pos (by omega)]; rfl
    · rw [if_neg (by omega), if_neg (by omega), if_pos rfl]; rfl
    · rw [if_neg (by omega), if_pos rfl]; rfl
    · rw [if_pos rfl]; rfl
  · have hu : updRo G k x (j / 4) = G (j / 4) := by unfold updRo; rw [if_neg e]
    rw [hu, if_neg (by omega), if_neg (by omega), if_neg (by omega), if_neg (by omega)]

theorem make_ro (n : Nat) (hn : n ≤ 4096) (W : World) : (Instr.makeSlice 22 (.int .i64 (n : Int)) (.int .i64 (n : Int))).run Try.prog W = .ok (.slice (some ⟨W.heap.size, 0, none⟩) n n) (W.alloc (.cells (arrRo n fun _ => ro0) 33)) := by
  obtain ⟨i, hi, hz0, hz1, hz2⟩ := info_parts infoRo
  have := run_make (P := Try.prog) W 22 33 i (.agg #[.int .i64 0, .int .i64 0, .bool false, .int .i64 0]) Try.underlying22 hi hz0 .i64 .i64 (n : Int) (n : Int) (by omega) (by omega) (by rw [hz2]; omega) (by omega)
  rw [this, hz1]
  simp only [Int.toNat_natCast]
  have e : madeCells (Value.agg #[.int .i64 0, .int .i64 0, .bool false, .int .i64 0]).cells (n * 4) = arrRo n fun _ => ro0 := by
    apply Array.ext
    · simp [madeCells, arrRo, arrN]
    · intro j h1 h2
      have hc : (Value.agg #[.int .i64 0, .int .i64 0, .bool false, .int .i64 0]).cells = #[.int .i64 0, .int .i64 0, .bool false, .int .i64 0] := rfl
      have h4 : j % 4 < 4 := Nat.mod_lt _ (by omega)
      simp only [madeCells, arrRo, arrN, hc, Array.getElem_map, Array.getElem_range, List.getElem_toArray, List.getElem_map, List.getElem_range]
      show (#[Value.int .i64 0, .int .i64 0, .bool false, .int .i64 0] : Array Value)[j % 4]! = cellRo ro0 (j % 4)
      generalize j % 4 = t at h4
      have ht : t = 0 ∨ t = 1 ∨ t = 2 ∨ t = 3 := by omega
      rcases ht with rfl | rfl | rfl | rfl <;> rfl
  rw [e]

theorem bg_drop {l : List Rn} {p : Int} {q : Nat} (h : ∀ j, j < q → (rnAt l j).1 ≤ p) (hq : q ≤ l.length) : bg l p = q + bg (l.drop q) p := by
  have hd : ∀ j, rnAt (l.drop q) j = rnAt l (q + j) := fun j => by unfold rnAt; rw [List.getD_eq_getElem?_getD, List.getD_eq_getElem?_getD, List.getElem?_drop]
  have hle := bg_le (l.drop q) p
  rw [List.length_drop] at hle
  refine bg_is (fun j hj => ?_) (by omega) (fun hh => ?_)
  · by_cases e : j < q
    · exact h j e
    · have := bg_lt (l := l.drop q) (p := p) (i := j - q) (by omega)
      rw [hd, show q + (j - q) = j by omega] at this
      exact this
  · have := bg_at (l := l.drop q) (p := p) (by rw [List.length_drop]; omega)
    rw [hd] at this
    exact this

/-- How many runs have begun ahead of a place. -/
def bgA (l : List Rn) (k : Nat) : Nat := if k = 0 then 0 else bg l ((k : Int) - 1)
theorem bgA_next (l : List Rn) (k : Nat) : bgA l (k + 1) = bg l (k : Int) := by
  unfold bgA
  rw [if_neg (by omega), show (((k + 1 : Nat) : Int) - 1) = (k : Int) by omega]
theorem bgA_le (l : List Rn) (k : Nat) : bgA l k ≤ l.length := by
  unfold bgA; split
  · omega
  · exact bg_le ..
theorem bgA_step (l : List Rn) (k : Nat) : bg l (k : Int) = bgA l k + bg (l.drop (bgA l k)) (k : Int) := by
  refine bg_drop (fun j hj => ?_) (bgA_le l k)
  unfold bgA at hj
  split at hj
  · omega
  · have := bg_lt hj; omega

def GR (W : World) (rb N k : Nat) (l : List Rn) : Prop := ∃ G : Nat → Ro, Blk W rb 33 (arrRo N G) ∧ (∀ i, i < k → G i = rowV l (i : Int)) ∧ ∀ i, k ≤ i → G i = ro0

theorem arrRo_cell {N : Nat} {G : Nat → Ro} {k t : Nat} (hk : k < N) (ht : t < 4) : (arrRo N G)[k * 4 + t]? = some (cellRo (G k) t) := by
  unfold arrRo
  rw [arrN_at _ (by omega), show (k * 4 + t) / 4 = k by omega, show (k * 4 + t) % 4 = t by omega]

theorem GR.keep {W : World} {rb N k : Nat} {l : List Rn} (h : GR W rb N k l) (h0 : rowV l (k : Int) = ro0) : GR W rb N (k + 1) l := by
  obtain ⟨G, h1, h2, h3⟩ := h
  refine ⟨G, h1, fun i hi => ?_, fun i hi => h3 i (by omega)⟩
  by_cases e : i = k
  · subst e; rw [h0]; exact h3 i (Nat.le_refl _)
  · exact h2 i (by omega)

theorem GR.put {W : World} {rb N k : Nat} {l : List Rn} (h : GR W rb N k l) (x : Ro) (hx : rowV l (k : Int) = x) : GR ((((W.setCell ⟨rb, k * 4, none⟩ (.int .i64 x.1)).setCell ⟨rb, k * 4 + 1, none⟩ (.int .i64 x.2.1)).setCell ⟨rb, k * 4 + 2, none⟩ (.bool x.2.2.1)).setCell ⟨rb, k * 4 + 3, none⟩ (.int .i64 x.2.2.2)) rb N (k + 1) l := by
  obtain ⟨G, h1, h2, h3⟩ := h
  refine ⟨updRo G k x, ?_, fun i hi => ?_, fun i hi => ?_⟩
  · rw [← arrRo_set]; exact (((h1.stored _ _).stored _ _).stored _ _).stored _ _
  · unfold updRo
    by_cases e : i = k
    · rw [if_pos e, ← hx, e]
    · rw [if_neg e]; exact h2 i (by omega)
  · unfold updRo
    rw [if_neg (by omega)]; exact h3 i (by omega)

theorem GR.rows {W : World} {rb N : Nat} {l : List Rn} (h : GR W rb N N l) (hN : N ≤ 4096) : RoL W (some ⟨rb, 0, none⟩) N N (rowsT l N) := by
  obtain ⟨G, h1, h2, _⟩ := h
  refine ⟨rowsT_len l N, Nat.le_refl _, by unfold maxLen; omega, fun e => by simp at e, fun i x hi => ⟨_, rfl, h1.lt, fun j u hu => ?_⟩⟩
  have hiN : i < N := by have := (List.getElem?_eq_some_iff.1 hi).1; rwa [rowsT_len] at this
  have hj : j < 4 := by have := (List.getElem?_eq_some_iff.1 hu).1; exact this
  have hx : x = G i := by
    unfold rowsT at hi
    rw [List.getElem?_map, List.getElem?_range hiN] at hi
    injection hi with hi
    rw [← hi, h2 i hiN]
  subst hx
  rw [add_plain, add_plain, Nat.zero_add, h1.cell, arrRo_cell hiN hj, ← hu]
  have ht : j = 0 ∨ j = 1 ∨ j = 2 ∨ j = 3 := by omega
  rcases ht with rfl | rfl | rfl | rfl <;> rfl

theorem GR.below {W W' : World} {rb N k : Nat} {l : List Rn} (h : GR W rb N k l) (hb : Below W.heap.size W W') : GR W' rb N k l := by
  obtain ⟨G, h1, h2, h3⟩ := h
  exact ⟨G, h1.below hb h1.lt, h2, h3⟩
theorem GR.cells {W : World} {rb N k : Nat} {l : List Rn} (h : GR W rb N k l) (hk : k < N) : (W.frozen? ⟨rb, k * 4, none⟩ = false ∧ W.frozen? ⟨rb, k * 4 + 1, none⟩ = false ∧ W.frozen? ⟨rb, k * 4 + 2, none⟩ = false ∧ W.frozen? ⟨rb, k * 4 + 3, none⟩ = false) ∧ W.cell? ⟨rb, k * 4, none⟩ = some (.int .i64 0) ∧ W.cell? ⟨rb, k * 4 + 1, none⟩ = some (.int .i64 0) ∧ W.cell? ⟨rb, k * 4 + 2, none⟩ = some (.bool false) ∧ W.cell? ⟨rb, k * 4 + 3, none⟩ = some (.int .i64 0) := by
  obtain ⟨G, h1, h2, h3⟩ := h
  have hg := h3 k (Nat.le_refl _)
  refine ⟨⟨h1.frozen _, h1.frozen _, h1.frozen _, h1.frozen _⟩, ?_, ?_, ?_, ?_⟩
  · have := (h1.cell (k * 4 + 0)).trans (arrRo_cell hk (show 0 < 4 by omega)); rw [hg] at this; exact this
  · have := (h1.cell (k * 4 + 1)).trans (arrRo_cell hk (show 1 < 4 by omega)); rw [hg] at this; exact this
  · have := (h1.cell (k * 4 + 2)).trans (arrRo_cell hk (show 2 < 4 by omega)); rw [hg] at this; exact this
  · have := (h1.cell (k * 4 + 3)).trans (arrRo_cell hk (show 3 < 4 by omega)); rw [hg] at this; exact this
theorem below_put4b {B : Nat} {w0 w : World} (h : Below B w0 w) (g : Nat) (hg : B ≤ g) (i : Nat) (a b c d : Value) : Below B w0 ((((w.setCell ⟨g, i, none⟩ a).setCell ⟨g, i + 1, none⟩ b).setCell ⟨g, i + 2, none⟩ c).setCell ⟨g, i + 3, none⟩ d) :=
  (((h.setCell (p := ⟨g, i, none⟩) hg _).setCell (p := ⟨g, i + 1, none⟩) hg _).setCell (p := ⟨g, i + 2, none⟩) hg _).setCell (p := ⟨g, i + 3, none⟩) hg _

set_option maxRecDepth 100000 in
set_option maxHeartbeats 4000000 in
theorem rows_any (w : World) (A : Option Addr) (n c : Nat) (l : List Rn) (p : Int) (h : RnL w A n c l) :
    Calls Try.prog 14 #[.slice A n c, .int .i64 p] w (WAns w (cntP p) (rowsT l (cntP p))) := by
  have hn := h.few
  obtain ⟨N, hN⟩ : ∃ N, cntP p = N := ⟨_, rfl⟩
  have hN3 : N ≤ 4096 := by rw [← hN]; unfold cntP; omega
  have hmk0 := make_ro N hN3
  have HN3 := Lib.hid hN3
  have HR := Lib.hid (fun W (hb : Below w.heap.size w W) i (hi : i < n) => (h.on hb).at_ hi)
  have HBG := Lib.hid (fun W (hb : Below w.heap.size w W) (q : Int) A' n' c' l' (hl : RnL W A' n' c' l') => begun_any W q A' n' c' l' hl)
  have HD := Lib.hid (fun W (hb : Below w.heap.size w W) => h.on hb)
  have HL := Lib.hid (show l.length = n from h.1)
  have HNC := Lib.hid (show n ≤ c ∧ (A = none → c = 0) from ⟨h.2.1, h.2.2.2.1⟩)
  have HW0 := Lib.hid (show GR (w.alloc (.cells (arrRo N fun _ => ro0) 33)) w.heap.size N 0 l ∧ Below w.heap.size w (w.alloc (.cells (arrRo N fun _ => ro0) 33)) from ⟨⟨fun _ => ro0, Blk.new w _ _, fun i hi => by omega, fun i _ => rfl⟩, alloc_ _ _⟩)
  have hcs : (p < 0 ∧ (N : Int) = 0) ∨ (0 ≤ p ∧ 4096 < p ∧ (N : Int) = 4096) ∨ (0 ≤ p ∧ p ≤ 4096 ∧ (N : Int) = p) := by rw [← hN]; unfold cntP; omega
  rw [hN]
  clear h hN hN3
  rcases hcs with ⟨h1, hz⟩ | ⟨h0, h1, hz⟩ | ⟨h0, h1, hz⟩
  · rw [hz] at hmk0
    have hmk := hmk0
    clear hmk0 hz
    go_enter Try.func14, Try.ntmps14
    go_wp2_with fail
    clear hmk
    go_loopw [6, 14] (fun b i wr => ∃ k : Nat, k ≤ N ∧ b = .int .i64 (bgA l k : Int) ∧ i = .int .i64 (k : Int) ∧ GR wr w.heap.size N k l ∧ Below w.heap.size w wr) (fun _ i _ => N - (intOf i).toNat)
    case atStart => exact ⟨0, Nat.zero_le _, rfl, rfl, HW0.out.1, HW0.out.2⟩
    case round =>
      obtain ⟨k, hk, rfl, rfl, hgr, hbel⟩ := hrel
      have HBE := Lib.hid hbel
      have HGR := Lib.hid hgr
      by_cases hlt : k < N
      · have hkI : (k : Int) < (N : Int) := by omega
        have hk9 : (k : Int) < 4096 := by have := HN3.out; omega
        have HST := Lib.hid (bgA_step l k)
        have HNX := Lib.hid (bgA_next l k)
        have hqn : bgA l k ≤ n := by rw [← HL.out]; exact bgA_le l k
        obtain ⟨q, hq⟩ : ∃ q, bgA l k = q := ⟨_, rfl⟩
        have HQ := Lib.hid hq
        rw [hq] at hqn HST ⊢
        have hqI : (q : Int) ≤ (n : Int) := by omega
        have hqc : q ≤ c := Nat.le_trans hqn HNC.out.1
        have hqcI : (q : Int) ≤ (c : Int) := by omega
        have hncI : (n : Int) ≤ (c : Int) := by have := HNC.out.1; omega
        have hnc : n ≤ c := HNC.out.1
        have hw := HD.out wr hbel
        have HCALL := Lib.hid (show ∀ A', ((∃ ad, A = some ad ∧ A' = some (ad.add (q * 5))) ∨ c ≤ q) → Calls Try.prog 37 #[.slice A' (n - q) (c - q), .int .i64 (k : Int)] wr fun e w' => e = .returned (.int .i64 (bg (l.drop q) (k : Int) : Int)) ∧ Below wr.heap.size wr w' from fun A' hA => by
          refine HBG.out wr hbel (k : Int) A' (n - q) (c - q) (l.drop q) ?_
          rcases hA with ⟨ad, rfl, rfl⟩ | hcq
          · exact Wd.drop hw q hqn
          · have hl0 : l.drop q = [] := List.drop_of_length_le (by rw [HL.out]; omega)
            rw [hl0]
            exact ⟨by simp; omega, by omega, by have := hw.2.2.1; omega, fun _ => by omega, fun i x hi => by simp at hi⟩)
        obtain ⟨m, hm⟩ : ∃ m, bg (l.drop q) (k : Int) = m := ⟨_, rfl⟩
        have hqm : q + m ≤ n := by rw [← hm, ← HST.out, ← HL.out]; exact bg_le ..
        rw [hm] at HCALL HST
        have hqmI : (q : Int) + (m : Int) ≤ (n : Int) := by omega
        have hwq : IntKind.i64.wrap ((q : Int) + (m : Int)) = (q : Int) + (m : Int) := IntWalk.i64_in _ ⟨by omega, by omega⟩
        have HROW := Lib.hid (show rowV l (k : Int) = if q + m = 0 then ro0 else (rnAt l (q + m - 1)).2 by unfold rowV; rw [HST.out])
        have HREL := Lib.hid (show Value.int .i64 ((q : Int) + (m : Int)) = .int .i64 (bgA l (k + 1) : Int) by rw [HNX.out, HST.out, Int.natCast_add])
        clear hq hbel hgr hm
        have hsome : c ≠ q → ∃ ad, A = some ad := fun hne => by
          cases A with
          | none => have := HNC.out.2 rfl; omega
          | some ad => exact ⟨ad, rfl⟩
        have hxx : 0 < q + m → q + m - 1 < n := fun h => by omega
        by_cases hcq : c = q
        · subst hcq
          have hmz : m = 0 := by omega
          have HC0 := Lib.hid (show ∀ A', Calls Try.prog 37 #[.slice A' 0 0, .int .i64 (k : Int)] wr fun e w' => e = .returned (.int .i64 (m : Int)) ∧ Below wr.heap.size wr w' from fun A' => by have := HCALL.out A' (.inr (Nat.le_refl _)); rwa [Nat.sub_self, show n - c = 0 by omega] at this)
          clear HCALL hsome hw hmz
          rcases Nat.eq_zero_or_pos (c + m) with h0 | h0
          · have h0I : ¬ (0 : Int) < (c : Int) + (m : Int) := by omega
            have HRO := Lib.hid (show rowV l (k : Int) = ro0 by rw [HROW.out, if_pos h0])
            go_wp2_with (go_at_call 37; refine (HC0.out _).mono ?_; rintro e w9 ⟨rfl, b9⟩; have HB9 := Lib.hid b9; clear b9)
            go_roundw
            case rel => exact ⟨k + 1, by omega, HREL.out, by go_num, (HGR.out.below HB9.out).keep HRO.out, to_ HBE.out HB9.out⟩
            case measure => simp [intOf]; omega
          · have h0I : (0 : Int) < (c : Int) + (m : Int) := by omega
            have hwk : IntKind.i64.wrap ((c : Int) + (m : Int) - 1) = ((c + m - 1 : Nat) : Int) := by rw [IntWalk.i64_in _ ⟨by omega, by omega⟩]; omega
            have hi9 := hxx h0
            obtain ⟨x, hx⟩ : ∃ x, rnAt l (c + m - 1) = x := ⟨_, rfl⟩
            have HRO := Lib.hid (show rowV l (k : Int) = x.2 by rw [HROW.out, if_neg (by omega), hx])
            have HRD := Lib.hid (fun W hb => HR.out W hb (c + m - 1) hi9)
            rw [hx] at HRD
            clear hx hxx
            obtain ⟨adz, e9, _⟩ := HRD.out wr HBE.out
            subst e9
            go_wp2_with (go_at_call 37; refine (HC0.out _).mono ?_; rintro e w9 ⟨rfl, b9⟩; have HB9 := Lib.hid (to_ HBE.out b9); have HG9 := Lib.hid (HGR.out.below b9); obtain ⟨ad9, e9, _, c0, c1, c2, c3, c4⟩ := HRD.out w9 HB9.out; injection e9 with e9; subst e9; obtain ⟨⟨f0, f1, f2, f3⟩, z0, z1, z2, z3⟩ := HG9.out.cells hlt; clear b9)
            go_roundw
            case rel => exact ⟨k + 1, by omega, HREL.out, by go_num, HG9.out.put x.2 HRO.out, below_put4b HB9.out _ (Nat.le_refl _) _ _ _ _ _⟩
            case measure => simp [intOf]; omega
        · obtain ⟨ad, rfl⟩ := hsome hcq
          have hcq2 : ¬ q = c := fun e => hcq e.symm
          have HC1 := Lib.hid (HCALL.out (some (ad.add (q * 5))) (.inl ⟨ad, rfl, rfl⟩))
          clear HCALL hsome hw
          rcases Nat.eq_zero_or_pos (q + m) with h0 | h0
          · have h0I : ¬ (0 : Int) < (q : Int) + (m : Int) := by omega
            have HRO := Lib.hid (show rowV l (k : Int) = ro0 by rw [HROW.out, if_pos h0])
            go_wp2_with (go_at_call 37; refine HC1.out.mono ?_; rintro e w9 ⟨rfl, b9⟩; have HB9 := Lib.hid b9; clear b9)
            go_roundw
            case rel => exact ⟨k + 1, by omega, HREL.out, by go_num, (HGR.out.below HB9.out).keep HRO.out, to_ HBE.out HB9.out⟩
            case measure => simp [intOf]; omega
          · have h0I : (0 : Int) < (q : Int) + (m : Int) := by omega
            have hwk : IntKind.i64.wrap ((q : Int) + (m : Int) - 1) = ((q + m - 1 : Nat) : Int) := by rw [IntWalk.i64_in _ ⟨by omega, by omega⟩]; omega
            have hi9 := hxx h0
            obtain ⟨x, hx⟩ : ∃ x, rnAt l (q + m - 1) = x := ⟨_, rfl⟩
            have HRO := Lib.hid (show rowV l (k : Int) = x.2 by rw [HROW.out, if_neg (by omega), hx])
            have HRD := Lib.hid (fun W hb => HR.out W hb (q + m - 1) hi9)
            rw [hx] at HRD
            clear hx hxx
            obtain ⟨adz, e9, _⟩ := HRD.out wr HBE.out
            cases e9
            go_wp2_with (go_at_call 37; refine (HC1.out).mono ?_; rintro e w9 ⟨rfl, b9⟩; have HB9 := Lib.hid (to_ HBE.out b9); have HG9 := Lib.hid (HGR.out.below b9); obtain ⟨ad9, e9, _, c0, c1, c2, c3, c4⟩ := HRD.out w9 HB9.out; injection e9 with e9; subst e9; obtain ⟨⟨f0, f1, f2, f3⟩, z0, z1, z2, z3⟩ := HG9.out.cells hlt; clear b9)
            go_roundw
            case rel => exact ⟨k + 1, by omega, HREL.out, by go_num, HG9.out.put x.2 HRO.out, below_put4b HB9.out _ (Nat.le_refl _) _ _ _ _ _⟩
            case measure => simp [intOf]; omega
      · obtain rfl : k = N := by omega
        have HG2 := Lib.hid (hgr.rows HN3.out)
        clear hbel hgr
        go_wp2_with fail
        go_ret
        exact ⟨_, _, rfl, HG2.out, HBE.out⟩
  · rw [hz] at hmk0
    have hmk := hmk0
    clear hmk0 hz
    go_enter Try.func14, Try.ntmps14
    go_wp2_with fail
    clear hmk
    go_loopw [6, 14] (fun b i wr => ∃ k : Nat, k ≤ N ∧ b = .int .i64 (bgA l k : Int) ∧ i = .int .i64 (k : Int) ∧ GR wr w.heap.size N k l ∧ Below w.heap.size w wr) (fun _ i _ => N - (intOf i).toNat)
    case atStart => exact ⟨0, Nat.zero_le _, rfl, rfl, HW0.out.1, HW0.out.2⟩
    case round =>
      obtain ⟨k, hk, rfl, rfl, hgr, hbel⟩ := hrel
      have HBE := Lib.hid hbel
      have HGR := Lib.hid hgr
      by_cases hlt : k < N
      · have hkI : (k : Int) < (N : Int) := by omega
        have hk9 : (k : Int) < 4096 := by have := HN3.out; omega
        have HST := Lib.hid (bgA_step l k)
        have HNX := Lib.hid (bgA_next l k)
        have hqn : bgA l k ≤ n := by rw [← HL.out]; exact bgA_le l k
        obtain ⟨q, hq⟩ : ∃ q, bgA l k = q := ⟨_, rfl⟩
        have HQ := Lib.hid hq
        rw [hq] at hqn HST ⊢
        have hqI : (q : Int) ≤ (n : Int) := by omega
        have hqc : q ≤ c := Nat.le_trans hqn HNC.out.1
        have hqcI : (q : Int) ≤ (c : Int) := by omega
        have hncI : (n : Int) ≤ (c : Int) := by have := HNC.out.1; omega
        have hnc : n ≤ c := HNC.out.1
        have hw := HD.out wr hbel
        have HCALL := Lib.hid (show ∀ A', ((∃ ad, A = some ad ∧ A' = some (ad.add (q * 5))) ∨ c ≤ q) → Calls Try.prog 37 #[.slice A' (n - q) (c - q), .int .i64 (k : Int)] wr fun e w' => e = .returned (.int .i64 (bg (l.drop q) (k : Int) : Int)) ∧ Below wr.heap.size wr w' from fun A' hA => by
          refine HBG.out wr hbel (k : Int) A' (n - q) (c - q) (l.drop q) ?_
          rcases hA with ⟨ad, rfl, rfl⟩ | hcq
          · exact Wd.drop hw q hqn
          · have hl0 : l.drop q = [] := List.drop_of_length_le (by rw [HL.out]; omega)
            rw [hl0]
            exact ⟨by simp; omega, by omega, by have := hw.2.2.1; omega, fun _ => by omega, fun i x hi => by simp at hi⟩)
        obtain ⟨m, hm⟩ : ∃ m, bg (l.drop q) (k : Int) = m := ⟨_, rfl⟩
        have hqm : q + m ≤ n := by rw [← hm, ← HST.out, ← HL.out]; exact bg_le ..
        rw [hm] at HCALL HST
        have hqmI : (q : Int) + (m : Int) ≤ (n : Int) := by omega
        have hwq : IntKind.i64.wrap ((q : Int) + (m : Int)) = (q : Int) + (m : Int) := IntWalk.i64_in _ ⟨by omega, by omega⟩
        have HROW := Lib.hid (show rowV l (k : Int) = if q + m = 0 then ro0 else (rnAt l (q + m - 1)).2 by unfold rowV; rw [HST.out])
        have HREL := Lib.hid (show Value.int .i64 ((q : Int) + (m : Int)) = .int .i64 (bgA l (k + 1) : Int) by rw [HNX.out, HST.out, Int.natCast_add])
        clear hq hbel hgr hm
        have hsome : c ≠ q → ∃ ad, A = some ad := fun hne => by
          cases A with
          | none => have := HNC.out.2 rfl; omega
          | some ad => exact ⟨ad, rfl⟩
        have hxx : 0 < q + m → q + m - 1 < n := fun h => by omega
        by_cases hcq : c = q
        · subst hcq
          have hmz : m = 0 := by omega
          have HC0 := Lib.hid (show ∀ A', Calls Try.prog 37 #[.slice A' 0 0, .int .i64 (k : Int)] wr fun e w' => e = .returned (.int .i64 (m : Int)) ∧ Below wr.heap.size wr w' from fun A' => by have := HCALL.out A' (.inr (Nat.le_refl _)); rwa [Nat.sub_self, show n - c = 0 by omega] at this)
          clear HCALL hsome hw hmz
          rcases Nat.eq_zero_or_pos (c + m) with h0 | h0
          · have h0I : ¬ (0 : Int) < (c : Int) + (m : Int) := by omega
            have HRO := Lib.hid (show rowV l (k : Int) = ro0 by rw [HROW.out, if_pos h0])
            go_wp2_with (go_at_call 37; refine (HC0.out _).mono ?_; rintro e w9 ⟨rfl, b9⟩; have HB9 := Lib.hid b9; clear b9)
            go_roundw
            case rel => exact ⟨k + 1, by omega, HREL.out, by go_num, (HGR.out.below HB9.out).keep HRO.out, to_ HBE.out HB9.out⟩
            case measure => simp [intOf]; omega
          · have h0I : (0 : Int) < (c : Int) + (m : Int) := by omega
            have hwk : IntKind.i64.wrap ((c : Int) + (m : Int) - 1) = ((c + m - 1 : Nat) : Int) := by rw [IntWalk.i64_in _ ⟨by omega, by omega⟩]; omega
            have hi9 := hxx h0
            obtain ⟨x, hx⟩ : ∃ x, rnAt l (c + m - 1) = x := ⟨_, rfl⟩
            have HRO := Lib.hid (show rowV l (k : Int) = x.2 by rw [HROW.out, if_neg (by omega), hx])
            have HRD := Lib.hid (fun W hb => HR.out W hb (c + m - 1) hi9)
            rw [hx] at HRD
            clear hx hxx
            obtain ⟨adz, e9, _⟩ := HRD.out wr HBE.out
            subst e9
            go_wp2_with (go_at_call 37; refine (HC0.out _).mono ?_; rintro e w9 ⟨rfl, b9⟩; have HB9 := Lib.hid (to_ HBE.out b9); have HG9 := Lib.hid (HGR.out.below b9); obtain ⟨ad9, e9, _, c0, c1, c2, c3, c4⟩ := HRD.out w9 HB9.out; injection e9 with e9; subst e9; obtain ⟨⟨f0, f1, f2, f3⟩, z0, z1, z2, z3⟩ := HG9.out.cells hlt; clear b9)
            go_roundw
            case rel => exact ⟨k + 1, by omega, HREL.out, by go_num, HG9.out.put x.2 HRO.out, below_put4b HB9.out _ (Nat.le_refl _) _ _ _ _ _⟩
            case measure => simp [intOf]; omega
        · obtain ⟨ad, rfl⟩ := hsome hcq
          have hcq2 : ¬ q = c := fun e => hcq e.symm
          have HC1 := Lib.hid (HCALL.out (some (ad.add (q * 5))) (.inl ⟨ad, rfl, rfl⟩))
          clear HCALL hsome hw
          rcases Nat.eq_zero_or_pos (q + m) with h0 | h0
          · have h0I : ¬ (0 : Int) < (q : Int) + (m : Int) := by omega
            have HRO := Lib.hid (show rowV l (k : Int) = ro0 by rw [HROW.out, if_pos h0])
            go_wp2_with (go_at_call 37; refine HC1.out.mono ?_; rintro e w9 ⟨rfl, b9⟩; have HB9 := Lib.hid b9; clear b9)
            go_roundw
            case rel => exact ⟨k + 1, by omega, HREL.out, by go_num, (HGR.out.below HB9.out).keep HRO.out, to_ HBE.out HB9.out⟩
            case measure => simp [intOf]; omega
          · have h0I : (0 : Int) < (q : Int) + (m : Int) := by omega
            have hwk : IntKind.i64.wrap ((q : Int) + (m : Int) - 1) = ((q + m - 1 : Nat) : Int) := by rw [IntWalk.i64_in _ ⟨by omega, by omega⟩]; omega
            have hi9 := hxx h0
            obtain ⟨x, hx⟩ : ∃ x, rnAt l (q + m - 1) = x := ⟨_, rfl⟩
            have HRO := Lib.hid (show rowV l (k : Int) = x.2 by rw [HROW.out, if_neg (by omega), hx])
            have HRD := Lib.hid (fun W hb => HR.out W hb (q + m - 1) hi9)
            rw [hx] at HRD
            clear hx hxx
            obtain ⟨adz, e9, _⟩ := HRD.out wr HBE.out
            cases e9
            go_wp2_with (go_at_call 37; refine (HC1.out).mono ?_; rintro e w9 ⟨rfl, b9⟩; have HB9 := Lib.hid (to_ HBE.out b9); have HG9 := Lib.hid (HGR.out.below b9); obtain ⟨ad9, e9, _, c0, c1, c2, c3, c4⟩ := HRD.out w9 HB9.out; injection e9 with e9; subst e9; obtain ⟨⟨f0, f1, f2, f3⟩, z0, z1, z2, z3⟩ := HG9.out.cells hlt; clear b9)
            go_roundw
            case rel => exact ⟨k + 1, by omega, HREL.out, by go_num, HG9.out.put x.2 HRO.out, below_put4b HB9.out _ (Nat.le_refl _) _ _ _ _ _⟩
            case measure => simp [intOf]; omega
      · obtain rfl : k = N := by omega
        have HG2 := Lib.hid (hgr.rows HN3.out)
        clear hbel hgr
        go_wp2_with fail
        go_ret
        exact ⟨_, _, rfl, HG2.out, HBE.out⟩
  · rw [hz] at hmk0
    have hmk := hmk0
    clear hmk0 hz
    go_enter Try.func14, Try.ntmps14
    go_wp2_with fail
    clear hmk
    go_loopw [6, 14] (fun b i wr => ∃ k : Nat, k ≤ N ∧ b = .int .i64 (bgA l k : Int) ∧ i = .int .i64 (k : Int) ∧ GR wr w.heap.size N k l ∧ Below w.heap.size w wr) (fun _ i _ => N - (intOf i).toNat)
    case atStart => exact ⟨0, Nat.zero_le _, rfl, rfl, HW0.out.1, HW0.out.2⟩
    case round =>
      obtain ⟨k, hk, rfl, rfl, hgr, hbel⟩ := hrel
      have HBE := Lib.hid hbel
      have HGR := Lib.hid hgr
      by_cases hlt : k < N
      · have hkI : (k : Int) < (N : Int) := by omega
        have hk9 : (k : Int) < 4096 := by have := HN3.out; omega
        have HST := Lib.hid (bgA_step l k)
        have HNX := Lib.hid (bgA_next l k)
        have hqn : bgA l k ≤ n := by rw [← HL.out]; exact bgA_le l k
        obtain ⟨q, hq⟩ : ∃ q, bgA l k = q := ⟨_, rfl⟩
        have HQ := Lib.hid hq
        rw [hq] at hqn HST ⊢
        have hqI : (q : Int) ≤ (n : Int) := by omega
        have hqc : q ≤ c := Nat.le_trans hqn HNC.out.1
        have hqcI : (q : Int) ≤ (c : Int) := by omega
        have hncI : (n : Int) ≤ (c : Int) := by have := HNC.out.1; omega
        have hnc : n ≤ c := HNC.out.1
        have hw := HD.out wr hbel
        have HCALL := Lib.hid (show ∀ A', ((∃ ad, A = some ad ∧ A' = some (ad.add (q * 5))) ∨ c ≤ q) → Calls Try.prog 37 #[.slice A' (n - q) (c - q), .int .i64 (k : Int)] wr fun e w' => e = .returned (.int .i64 (bg (l.drop q) (k : Int) : Int)) ∧ Below wr.heap.size wr w' from fun A' hA => by
          refine HBG.out wr hbel (k : Int) A' (n - q) (c - q) (l.drop q) ?_
          rcases hA with ⟨ad, rfl, rfl⟩ | hcq
          · exact Wd.drop hw q hqn
          · have hl0 : l.drop q = [] := List.drop_of_length_le (by rw [HL.out]; omega)
            rw [hl0]
            exact ⟨by simp; omega, by omega, by have := hw.2.2.1; omega, fun _ => by omega, fun i x hi => by simp at hi⟩)
        obtain ⟨m, hm⟩ : ∃ m, bg (l.drop q) (k : Int) = m := ⟨_, rfl⟩
        have hqm : q + m ≤ n := by rw [← hm, ← HST.out, ← HL.out]; exact bg_le ..
        rw [hm] at HCALL HST
        have hqmI : (q : Int) + (m : Int) ≤ (n : Int) := by omega
        have hwq : IntKind.i64.wrap ((q : Int) + (m : Int)) = (q : Int) + (m : Int) := IntWalk.i64_in _ ⟨by omega, by omega⟩
        have HROW := Lib.hid (show rowV l (k : Int) = if q + m = 0 then ro0 else (rnAt l (q + m - 1)).2 by unfold rowV; rw [HST.out])
        have HREL := Lib.hid (show Value.int .i64 ((q : Int) + (m : Int)) = .int .i64 (bgA l (k + 1) : Int) by rw [HNX.out, HST.out, Int.natCast_add])
        clear hq hbel hgr hm
        have hsome : c ≠ q → ∃ ad, A = some ad := fun hne => by
          cases A with
          | none => have := HNC.out.2 rfl; omega
          | some ad => exact ⟨ad, rfl⟩
        have hxx : 0 < q + m → q + m - 1 < n := fun h => by omega
        by_cases hcq : c = q
        · subst hcq
          have hmz : m = 0 := by omega
          have HC0 := Lib.hid (show ∀ A', Calls Try.prog 37 #[.slice A' 0 0, .int .i64 (k : Int)] wr fun e w' => e = .returned (.int .i64 (m : Int)) ∧ Below wr.heap.size wr w' from fun A' => by have := HCALL.out A' (.inr (Nat.le_refl _)); rwa [Nat.sub_self, show n - c = 0 by omega] at this)
          clear HCALL hsome hw hmz
          rcases Nat.eq_zero_or_pos (c + m) with h0 | h0
          · have h0I : ¬ (0 : Int) < (c : Int) + (m : Int) := by omega
            have HRO := Lib.hid (show rowV l (k : Int) = ro0 by rw [HROW.out, if_pos h0])
            go_wp2_with (go_at_call 37; refine (HC0.out _).mono ?_; rintro e w9 ⟨rfl, b9⟩; have HB9 := Lib.hid b9; clear b9)
            go_roundw
            case rel => exact ⟨k + 1, by omega, HREL.out, by go_num, (HGR.out.below HB9.out).keep HRO.out, to_ HBE.out HB9.out⟩
            case measure => simp [intOf]; omega
          · have h0I : (0 : Int) < (c : Int) + (m : Int) := by omega
            have hwk : IntKind.i64.wrap ((c : Int) + (m : Int) - 1) = ((c + m - 1 : Nat) : Int) := by rw [IntWalk.i64_in _ ⟨by omega, by omega⟩]; omega
            have hi9 := hxx h0
            obtain ⟨x, hx⟩ : ∃ x, rnAt l (c + m - 1) = x := ⟨_, rfl⟩
            have HRO := Lib.hid (show rowV l (k : Int) = x.2 by rw [HROW.out, if_neg (by omega), hx])
            have HRD := Lib.hid (fun W hb => HR.out W hb (c + m - 1) hi9)
            rw [hx] at HRD
            clear hx hxx
            obtain ⟨adz, e9, _⟩ := HRD.out wr HBE.out
            subst e9
            go_wp2_with (go_at_call 37; refine (HC0.out _).mono ?_; rintro e w9 ⟨rfl, b9⟩; have HB9 := Lib.hid (to_ HBE.out b9); have HG9 := Lib.hid (HGR.out.below b9); obtain ⟨ad9, e9, _, c0, c1, c2, c3, c4⟩ := HRD.out w9 HB9.out; injection e9 with e9; subst e9; obtain ⟨⟨f0, f1, f2, f3⟩, z0, z1, z2, z3⟩ := HG9.out.cells hlt; clear b9)
            go_roundw
            case rel => exact ⟨k + 1, by omega, HREL.out, by go_num, HG9.out.put x.2 HRO.out, below_put4b HB9.out _ (Nat.le_refl _) _ _ _ _ _⟩
            case measure => simp [intOf]; omega
        · obtain ⟨ad, rfl⟩ := hsome hcq
          have hcq2 : ¬ q = c := fun e => hcq e.symm
          have HC1 := Lib.hid (HCALL.out (some (ad.add (q * 5))) (.inl ⟨ad, rfl, rfl⟩))
          clear HCALL hsome hw
          rcases Nat.eq_zero_or_pos (q + m) with h0 | h0
          · have h0I : ¬ (0 : Int) < (q : Int) + (m : Int) := by omega
            have HRO := Lib.hid (show rowV l (k : Int) = ro0 by rw [HROW.out, if_pos h0])
            go_wp2_with (go_at_call 37; refine HC1.out.mono ?_; rintro e w9 ⟨rfl, b9⟩; have HB9 := Lib.hid b9; clear b9)
            go_roundw
            case rel => exact ⟨k + 1, by omega, HREL.out, by go_num, (HGR.out.below HB9.out).keep HRO.out, to_ HBE.out HB9.out⟩
            case measure => simp [intOf]; omega
          · have h0I : (0 : Int) < (q : Int) + (m : Int) := by omega
            have hwk : IntKind.i64.wrap ((q : Int) + (m : Int) - 1) = ((q + m - 1 : Nat) : Int) := by rw [IntWalk.i64_in _ ⟨by omega, by omega⟩]; omega
            have hi9 := hxx h0
            obtain ⟨x, hx⟩ : ∃ x, rnAt l (q + m - 1) = x := ⟨_, rfl⟩
            have HRO := Lib.hid (show rowV l (k : Int) = x.2 by rw [HROW.out, if_neg (by omega), hx])
            have HRD := Lib.hid (fun W hb => HR.out W hb (q + m - 1) hi9)
            rw [hx] at HRD
            clear hx hxx
            obtain ⟨adz, e9, _⟩ := HRD.out wr HBE.out
            cases e9
            go_wp2_with (go_at_call 37; refine (HC1.out).mono ?_; rintro e w9 ⟨rfl, b9⟩; have HB9 := Lib.hid (to_ HBE.out b9); have HG9 := Lib.hid (HGR.out.below b9); obtain ⟨ad9, e9, _, c0, c1, c2, c3, c4⟩ := HRD.out w9 HB9.out; injection e9 with e9; subst e9; obtain ⟨⟨f0, f1, f2, f3⟩, z0, z1, z2, z3⟩ := HG9.out.cells hlt; clear b9)
            go_roundw
            case rel => exact ⟨k + 1, by omega, HREL.out, by go_num, HG9.out.put x.2 HRO.out, below_put4b HB9.out _ (Nat.le_refl _) _ _ _ _ _⟩
            case measure => simp [intOf]; omega
      · obtain rfl : k = N := by omega
        have HG2 := Lib.hid (hgr.rows HN3.out)
        clear hbel hgr
        go_wp2_with fail
        go_ret
        exact ⟨_, _, rfl, HG2.out, HBE.out⟩
end Go.Proofs.Ytckpbdphilifoaa.By
