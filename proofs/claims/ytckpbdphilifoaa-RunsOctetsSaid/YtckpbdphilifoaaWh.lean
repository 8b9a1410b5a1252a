/-
  WALKS of layer 13: Make, and the document's own.
-/
import Derived.Test.YtckpbdphilifoaaWg
namespace Go.Proofs.Ytckpbdphilifoaa.By
open Go.RowKit
open Mem Gm Rf

theorem flat_at {α : Type} {k : Nat} {enc : α → List Value} (hk : ∀ x, (enc x).length = k) : ∀ (l : List α) (i : Nat) (x : α) (j : Nat) (u : Value), l[i]? = some x → (enc x)[j]? = some u → (l.flatMap enc)[i * k + j]? = some u
  | [], i, x, j, u, h, _ => by simp at h
  | y :: l, 0, x, j, u, h, hu => by
    have : y = x := by simpa using h
    subst this
    have hj := (List.getElem?_eq_some_iff.1 hu).1
    rw [List.flatMap_cons, Nat.zero_mul, Nat.zero_add, List.getElem?_append_left hj]; exact hu
  | y :: l, i + 1, x, j, u, h, hu => by
    have := flat_at hk l i x j u (by simpa using h) hu
    rw [List.flatMap_cons, List.getElem?_append_right (by rw [hk, Nat.add_mul]; omega), hk, show (i + 1) * k + j - k = i * k + j by rw [Nat.add_mul]; omega]
    exact this

theorem flat_len {α : Type} {k : Nat} {enc : α → List Value} (hk : ∀ x, (enc x).length = k) (l : List α) : (l.flatMap enc).length = l.length * k := by
  induction l with
  | nil => simp
  | cons y l ih => rw [List.flatMap_cons, List.length_append, ih, hk, List.length_cons, Nat.add_mul]; omega

theorem wd_own {α : Type} {k : Nat} {enc : α → List Value} {w : World} {base n : Nat} {e : TypeId} {v : Value} {l : List α} (hk : ∀ x, (enc x).length = k) (hl : l.length = n) (h : w.ownsRow base e k v n (l.flatMap enc)) : ∃ A c, v = .slice A n c ∧ Wd k enc w w.heap.size A n c l := by
  have h2 := h.2
  rcases h2 with ⟨rfl, rfl⟩ | ⟨g, cap, cur, rfl, hb, hg, hc, hm, hs, ht⟩
  · have : l = [] := List.eq_nil_of_length_eq_zero hl
    subst this
    exact ⟨none, 0, rfl, Wd.nil⟩
  · refine ⟨_, cap, rfl, hl, hc, hm, fun e => by simp at e, fun i x hi => ⟨_, rfl, (Array.getElem?_eq_some_iff.1 hg).1, fun j u hu => ?_⟩⟩
    rw [add_twice]
    exact h.cells (g := g) rfl _ _ (flat_at hk l i x j u hi hu)

theorem encRn_len (x : Rn) : (encRn x).length = 5 := rfl
theorem encRo_len (x : Ro) : (encRo x).length = 4 := rfl
def flRn (l : List Rn) : List Value := l.flatMap encRn
def flRo (l : List Ro) : List Value := l.flatMap encRo
theorem flRn_snoc (l : List Rn) (x : Rn) : flRn l ++ encRn x = flRn (l ++ [x]) := by simp [flRn]
theorem flRo_snoc (l : List Ro) (x : Ro) : flRo l ++ encRo x = flRo (l ++ [x]) := by simp [flRo]
theorem RnL.own {w : World} {base n : Nat} {v : Value} {l : List Rn} (hl : l.length = n) (h : w.ownsRow base 60 5 v n (flRn l)) : ∃ A c, v = .slice A n c ∧ RnL w A n c l := wd_own encRn_len hl h
theorem RoL.own {w : World} {base n : Nat} {v : Value} {l : List Ro} (hl : l.length = n) (h : w.ownsRow base 33 4 v n (flRo l)) : ∃ A c, v = .slice A n c ∧ RoL w A n c l := wd_own encRo_len hl h

theorem ownk_keep {w w' : World} {base n k : Nat} {E : TypeId} {v : Value} {xs : List Value} (h : w.ownsRow base E k v n xs) (hk : ∀ g, base ≤ g → g < w.heap.size → w'.heap[g]? = w.heap[g]?) : w'.ownsRow base E k v n xs := by
  obtain ⟨h1, h2⟩ := h
  refine ⟨h1, ?_⟩
  rcases h2 with h2 | ⟨g, cap, cur, hv, hb, hg, r⟩
  · exact .inl h2
  · exact .inr ⟨g, cap, cur, hv, hb, (hk g hb (Array.getElem?_eq_some_iff.1 hg).1).trans hg, r⟩

theorem infoRn : (Try.prog.info? 60).map (fun i => (i.zero, i.size, i.bytes)) = some (some (.agg #[.int .i64 0, .int .i64 0, .int .i64 0, .bool false, .int .i64 0]), 5, 40) := by kernel_rfl
theorem infoRo : (Try.prog.info? 33).map (fun i => (i.zero, i.size, i.bytes)) = some (some (.agg #[.int .i64 0, .int .i64 0, .bool false, .int .i64 0]), 4, 32) := by kernel_rfl

/-- A new run begins at a place. -/
def New (rows : List Ro) (i : Nat) : Prop := i = 0 ∨ roAt rows i ≠ roAt rows (i - 1)
instance (rows : List Ro) (i : Nat) : Decidable (New rows i) := by unfold New; infer_instance
def mkT (rows : List Ro) (k : Nat) : List Rn := ((List.range k).filter fun i => decide (New rows i)).map fun (i : Nat) => ((i : Int), roAt rows i)
theorem mkT_yes {rows : List Ro} {k : Nat} (h : New rows k) : mkT rows (k + 1) = mkT rows k ++ [((k : Int), roAt rows k)] := by
  unfold mkT
  rw [List.range_succ, List.filter_append, List.filter_cons_of_pos (by simpa using h)]
  simp
theorem mkT_no {rows : List Ro} {k : Nat} (h : ¬ New rows k) : mkT rows (k + 1) = mkT rows k := by
  unfold mkT
  rw [List.range_succ, List.filter_append, List.filter_cons_of_neg (by simpa using h)]
  simp
theorem mkT_len (rows : List Ro) (k : Nat) : (mkT rows k).length ≤ k := by
  unfold mkT
  rw [List.length_map]
  have := List.length_filter_le (fun i => decide (New rows i)) (List.range k)
  simpa using this

def MAns (w : World) (L : Nat) (l : List Rn) (e : Ending) (w' : World) : Prop := ∃ A c, e = .returned (.slice A L c) ∧ RnL w' A L c l ∧ Below w.heap.size w w'

set_option maxRecDepth 100000 in
set_option maxHeartbeats 8000000 in
theorem rmake_any (w : World) (A : Option Addr) (n c : Nat) (rows : List Ro) (h : RoL w A n c rows) (hn : n ≤ 100000) :
    Calls Try.prog 11 #[.slice A n c] w (MAns w (mkT rows n).length (mkT rows n)) := by
  obtain ⟨i0, hi, hz0, hz1, hz2⟩ := info_parts infoRn
  have HR := Lib.hid (fun W (hb : Below w.heap.size w W) i (hi : i < n) => (h.on hb).at_ hi)
  clear h
  go_enter Try.func11, Try.ntmps11
  go_wp2_with fail
  go_loopw [3, 4] (fun v i wr => ∃ k : Nat, k ≤ n ∧ i = .int .i64 (k : Int) ∧ wr.ownsRow w.heap.size 60 5 v (mkT rows k).length (flRn (mkT rows k)) ∧ Below w.heap.size w wr) (fun _ i _ => n - (intOf i).toNat)
  case atStart => exact ⟨0, Nat.zero_le _, rfl, World.ownsRow_nil _ _ _ _, Below.refl _ _⟩
  case round =>
    obtain ⟨k, hk, rfl, hown, hbel⟩ := hrel
    have HBE := Lib.hid hbel
    have HOW := Lib.hid hown
    clear hown
    by_cases hlt : k < n
    · have hkI : (k : Int) < (n : Int) := by omega
      obtain ⟨ad, rfl, _, d0, d1, d2, d3⟩ := HR.out wr hbel k hlt
      have HLEN := Lib.hid (mkT_len rows k)
      obtain ⟨x, hx⟩ : ∃ x, roAt rows k = x := ⟨_, rfl⟩
      rw [hx] at d0 d1 d2 d3
      rcases Nat.eq_zero_or_pos k with hk0 | hk0
      · have HX := Lib.hid (show mkT rows (k + 1) = mkT rows k ++ [((k : Int), x)] from by rw [← hx]; exact mkT_yes (.inl hk0))
        have hkz : ((k : Int) == 0) = true := by simp; omega
        clear hx hk0 hbel
        go_wp2_with fail
        go_quiet (fail)
        go_wp2_with (at_builtin; refine wpList_append_own _ rfl _ _ 23 rfl w.heap.size 60 i0 (.agg #[.int .i64 0, .int .i64 0, .int .i64 0, .bool false, .int .i64 0]) 5 40 Try.underlying23 hi hz0 hz1 hz2 rfl (by decide) _ _ _ rfl (ownk_keep HOW.out fun g _ hg => Below.heap_alloc _ _ _ hg) ⟨wr.heap.size, 0, none⟩ 1 1 (encRn ((k : Int), x)) rfl rfl (fun j u hu => by rw [add_plain, Nat.zero_add]; exact ((Blk.new (wr.drewN nq) _ _).cell j).trans (by simpa [encRn] using hu)) (by simp [encRn, Value.oneCell']) (by have := HLEN.out; unfold maxLen; omega) (by have := HLEN.out; omega) (by have := HBE.out.size; simp; omega) ?_; intro v' w4 h2 h3 h4; clear h4; rw [flRn_snoc] at h2; have H2 := Lib.hid h2; have H3 := Lib.hid h3; clear h2 h3)
        go_roundw
        case rel =>
          have hbA : Below w.heap.size w ((wr.drewN nq).alloc (.cells #[.int .i64 (k : Int), .int .i64 x.1, .int .i64 x.2.1, .bool x.2.2.1, .int .i64 x.2.2.2] 60)) := to_ (to_ HBE.out (drew_below _ _)) (alloc_ _ _)
          refine ⟨k + 1, by omega, by go_num, ?_, hbA.grown H3.out hbA.size fun r e => (HOW.out.lt r e).1⟩
          rw [HX.out, List.length_append]
          exact H2.out
        case measure => simp [intOf]; omega
      · obtain ⟨ad1, e9, _, c0, c1, c2, c3⟩ := HR.out wr hbel (k - 1) (by omega)
        injection e9 with e9
        subst e9
        have hk1 : (1 : Int) ≤ (k : Int) := by omega
        have hknz : ¬ k = 0 := by omega
        have hkz : ((k : Int) == 0) = false := by simp; omega
        have hkn1 : k - 1 < n := by omega
        obtain ⟨y, hy⟩ : ∃ y, roAt rows (k - 1) = y := ⟨_, rfl⟩
        rw [hy] at c0 c1 c2 c3
        by_cases hxy : x = y
        · have HX := Lib.hid (show mkT rows (k + 1) = mkT rows k from mkT_no (fun hh => by
            rcases hh with hh | hh
            · omega
            · exact hh (by rw [hx, hy]; exact hxy)))
          subst hxy
          clear hx hy hk0 hbel
          go_wp2_with fail
          go_quiet (fail)
          go_wp2_with fail
          go_roundw
          case rel => exact ⟨k + 1, by omega, by go_num, by rw [HX.out]; exact ownk_keep HOW.out (fun g _ _ => rfl), to_ HBE.out (drew_below _ _)⟩
          case measure => simp [intOf]; omega
        · have HX := Lib.hid (show mkT rows (k + 1) = mkT rows k ++ [((k : Int), x)] from by rw [← hx]; exact mkT_yes (.inr (by rw [hx, hy]; exact hxy)))
          have hcs := ne_cases hxy
          clear hx hy hxy hk0 hbel
          rcases hcs with hcs | ⟨q1, hcs⟩ | ⟨q1, q2, hcs⟩ | ⟨q1, q2, q3, hcs⟩
          · go_wp2_with fail
            go_quiet (fail)
            go_wp2_with (at_builtin; refine wpList_append_own _ rfl _ _ 23 rfl w.heap.size 60 i0 (.agg #[.int .i64 0, .int .i64 0, .int .i64 0, .bool false, .int .i64 0]) 5 40 Try.underlying23 hi hz0 hz1 hz2 rfl (by decide) _ _ _ rfl (ownk_keep HOW.out fun g _ hg => Below.heap_alloc _ _ _ hg) ⟨wr.heap.size, 0, none⟩ 1 1 (encRn ((k : Int), x)) rfl rfl (fun j u hu => by rw [add_plain, Nat.zero_add]; exact ((Blk.new (wr.drewN nq) _ _).cell j).trans (by simpa [encRn] using hu)) (by simp [encRn, Value.oneCell']) (by have := HLEN.out; unfold maxLen; omega) (by have := HLEN.out; omega) (by have := HBE.out.size; simp; omega) ?_; intro v' w4 h2 h3 h4; clear h4; rw [flRn_snoc] at h2; have H2 := Lib.hid h2; have H3 := Lib.hid h3; clear h2 h3)
            go_roundw
            case rel =>
              have hbA : Below w.heap.size w ((wr.drewN nq).alloc (.cells #[.int .i64 (k : Int), .int .i64 x.1, .int .i64 x.2.1, .bool x.2.2.1, .int .i64 x.2.2.2] 60)) := to_ (to_ HBE.out (drew_below _ _)) (alloc_ _ _)
              refine ⟨k + 1, by omega, by go_num, ?_, hbA.grown H3.out hbA.size fun r e => (HOW.out.lt r e).1⟩
              rw [HX.out, List.length_append]
              exact H2.out
            case measure => simp [intOf]; omega
          · rw [← q1] at c0
            clear q1
            go_wp2_with fail
            go_quiet (fail)
            go_wp2_with (at_builtin; refine wpList_append_own _ rfl _ _ 23 rfl w.heap.size 60 i0 (.agg #[.int .i64 0, .int .i64 0, .int .i64 0, .bool false, .int .i64 0]) 5 40 Try.underlying23 hi hz0 hz1 hz2 rfl (by decide) _ _ _ rfl (ownk_keep HOW.out fun g _ hg => Below.heap_alloc _ _ _ hg) ⟨wr.heap.size, 0, none⟩ 1 1 (encRn ((k : Int), x)) rfl rfl (fun j u hu => by rw [add_plain, Nat.zero_add]; exact ((Blk.new (wr.drewN nq) _ _).cell j).trans (by simpa [encRn] using hu)) (by simp [encRn, Value.oneCell']) (by have := HLEN.out; unfold maxLen; omega) (by have := HLEN.out; omega) (by have := HBE.out.size; simp; omega) ?_; intro v' w4 h2 h3 h4; clear h4; rw [flRn_snoc] at h2; have H2 := Lib.hid h2; have H3 := Lib.hid h3; clear h2 h3)
            go_roundw
            case rel =>
              have hbA : Below w.heap.size w ((wr.drewN nq).alloc (.cells #[.int .i64 (k : Int), .int .i64 x.1, .int .i64 x.2.1, .bool x.2.2.1, .int .i64 x.2.2.2] 60)) := to_ (to_ HBE.out (drew_below _ _)) (alloc_ _ _)
              refine ⟨k + 1, by omega, by go_num, ?_, hbA.grown H3.out hbA.size fun r e => (HOW.out.lt r e).1⟩
              rw [HX.out, List.length_append]
              exact H2.out
            case measure => simp [intOf]; omega
          · rw [← q1] at c0
            clear q1
            rw [← q2] at c1
            clear q2
            go_wp2_with fail
            go_quiet (fail)
            go_wp2_with (at_builtin; refine wpList_append_own _ rfl _ _ 23 rfl w.heap.size 60 i0 (.agg #[.int .i64 0, .int .i64 0, .int .i64 0, .bool false, .int .i64 0]) 5 40 Try.underlying23 hi hz0 hz1 hz2 rfl (by decide) _ _ _ rfl (ownk_keep HOW.out fun g _ hg => Below.heap_alloc _ _ _ hg) ⟨wr.heap.size, 0, none⟩ 1 1 (encRn ((k : Int), x)) rfl rfl (fun j u hu => by rw [add_plain, Nat.zero_add]; exact ((Blk.new (wr.drewN nq) _ _).cell j).trans (by simpa [encRn] using hu)) (by simp [encRn, Value.oneCell']) (by have := HLEN.out; unfold maxLen; omega) (by have := HLEN.out; omega) (by have := HBE.out.size; simp; omega) ?_; intro v' w4 h2 h3 h4; clear h4; rw [flRn_snoc] at h2; have H2 := Lib.hid h2; have H3 := Lib.hid h3; clear h2 h3)
            go_roundw
            case rel =>
              have hbA : Below w.heap.size w ((wr.drewN nq).alloc (.cells #[.int .i64 (k : Int), .int .i64 x.1, .int .i64 x.2.1, .bool x.2.2.1, .int .i64 x.2.2.2] 60)) := to_ (to_ HBE.out (drew_below _ _)) (alloc_ _ _)
              refine ⟨k + 1, by omega, by go_num, ?_, hbA.grown H3.out hbA.size fun r e => (HOW.out.lt r e).1⟩
              rw [HX.out, List.length_append]
              exact H2.out
            case measure => simp [intOf]; omega
          · rw [← q1] at c0
            clear q1
            rw [← q2] at c1
            clear q2
            rw [← q3] at c2
            clear q3
            go_wp2_with fail
            go_quiet (fail)
            go_wp2_with (at_builtin; refine wpList_append_own _ rfl _ _ 23 rfl w.heap.size 60 i0 (.agg #[.int .i64 0, .int .i64 0, .int .i64 0, .bool false, .int .i64 0]) 5 40 Try.underlying23 hi hz0 hz1 hz2 rfl (by decide) _ _ _ rfl (ownk_keep HOW.out fun g _ hg => Below.heap_alloc _ _ _ hg) ⟨wr.heap.size, 0, none⟩ 1 1 (encRn ((k : Int), x)) rfl rfl (fun j u hu => by rw [add_plain, Nat.zero_add]; exact ((Blk.new (wr.drewN nq) _ _).cell j).trans (by simpa [encRn] using hu)) (by simp [encRn, Value.oneCell']) (by have := HLEN.out; unfold maxLen; omega) (by have := HLEN.out; omega) (by have := HBE.out.size; simp; omega) ?_; intro v' w4 h2 h3 h4; clear h4; rw [flRn_snoc] at h2; have H2 := Lib.hid h2; have H3 := Lib.hid h3; clear h2 h3)
            go_roundw
            case rel =>
              have hbA : Below w.heap.size w ((wr.drewN nq).alloc (.cells #[.int .i64 (k : Int), .int .i64 x.1, .int .i64 x.2.1, .bool x.2.2.1, .int .i64 x.2.2.2] 60)) := to_ (to_ HBE.out (drew_below _ _)) (alloc_ _ _)
              refine ⟨k + 1, by omega, by go_num, ?_, hbA.grown H3.out hbA.size fun r e => (HOW.out.lt r e).1⟩
              rw [HX.out, List.length_append]
              exact H2.out
            case measure => simp [intOf]; omega
    · obtain rfl : k = n := by omega
      obtain ⟨A2, c2, rfl, hl⟩ := RnL.own rfl HOW.out
      have HL := Lib.hid hl
      clear hbel hl
      go_wp2_with fail
      go_ret
      exact ⟨A2, c2, rfl, HL.out, HBE.out⟩

set_option maxRecDepth 100000 in
set_option maxHeartbeats 8000000 in
theorem make_any (w : World) (A : Option Addr) (n c : Nat) (rows : List Ro) (h : RoL w A n c rows) (hn : n ≤ 100000) :
    Calls Try.prog 9 #[.slice A n c] w (MAns w (mkT rows n).length (mkT rows n)) := by
  obtain ⟨i0, hi, hz0, hz1, hz2⟩ := info_parts infoRn
  have HR := Lib.hid (fun W (hb : Below w.heap.size w W) i (hi : i < n) => (h.on hb).at_ hi)
  clear h
  go_enter Try.func9, Try.ntmps9
  go_wp2_with fail
  go_loopw [3, 8] (fun v i wr => ∃ k : Nat, k ≤ n ∧ i = .int .i64 (k : Int) ∧ wr.ownsRow w.heap.size 60 5 v (mkT rows k).length (flRn (mkT rows k)) ∧ Below w.heap.size w wr) (fun _ i _ => n - (intOf i).toNat)
  case atStart => exact ⟨0, Nat.zero_le _, rfl, World.ownsRow_nil _ _ _ _, Below.refl _ _⟩
  case round =>
    obtain ⟨k, hk, rfl, hown, hbel⟩ := hrel
    have HBE := Lib.hid hbel
    have HOW := Lib.hid hown
    clear hown
    by_cases hlt : k < n
    · have hkI : (k : Int) < (n : Int) := by omega
      obtain ⟨ad, rfl, _, d0, d1, d2, d3⟩ := HR.out wr hbel k hlt
      have HLEN := Lib.hid (mkT_len rows k)
      obtain ⟨x, hx⟩ : ∃ x, roAt rows k = x := ⟨_, rfl⟩
      rw [hx] at d0 d1 d2 d3
      obtain ⟨wx, hwx⟩ : ∃ wx, wr.alloc (.cells #[.int .i64 x.1, .int .i64 x.2.1, .bool x.2.2.1, .int .i64 x.2.2.2] 33) = wx := ⟨_, rfl⟩
      have hbx : Below wr.heap.size wr wx := by rw [← hwx]; exact alloc_ _ _
      have hzx : wr.heap.size ≤ wx.heap.size := hbx.size
      obtain ⟨e0, e1, e2, e3⟩ : wx.cell? ⟨wr.heap.size, 0, none⟩ = some (.int .i64 x.1) ∧ wx.cell? ⟨wr.heap.size, 1, none⟩ = some (.int .i64 x.2.1) ∧ wx.cell? ⟨wr.heap.size, 2, none⟩ = some (.bool x.2.2.1) ∧ wx.cell? ⟨wr.heap.size, 3, none⟩ = some (.int .i64 x.2.2.2) := by
        rw [← hwx]; exact Blk.ce4 (Blk.new wr _ _)
      have HOX := Lib.hid (ownk_keep HOW.out fun g _ hg => hbx.block g hg)
      have HBX := Lib.hid (to_ hbel hbx)
      rcases Nat.eq_zero_or_pos k with hk0 | hk0
      · have HX := Lib.hid (show mkT rows (k + 1) = mkT rows k ++ [((k : Int), x)] from by rw [← hx]; exact mkT_yes (.inl hk0))
        have hkz : ((k : Int) == 0) = true := by simp; omega
        clear hx hk0 hbel hbx
        go_wp2_with fail
        go_quiet (fail)
        go_wp2_with (at_builtin; refine wpList_append_own _ rfl _ _ 23 rfl w.heap.size 60 i0 (.agg #[.int .i64 0, .int .i64 0, .int .i64 0, .bool false, .int .i64 0]) 5 40 Try.underlying23 hi hz0 hz1 hz2 rfl (by decide) _ _ _ rfl (ownk_keep HOX.out fun g _ hg => Below.heap_alloc _ _ _ hg) ⟨wx.heap.size, 0, none⟩ 1 1 (encRn ((k : Int), x)) rfl rfl (fun j u hu => by rw [add_plain, Nat.zero_add]; exact ((Blk.new (wx.drewN nq) _ _).cell j).trans (by simpa [encRn] using hu)) (by simp [encRn, Value.oneCell']) (by have := HLEN.out; unfold maxLen; omega) (by have := HLEN.out; omega) (by have := HBX.out.size; simp; omega) ?_; intro v' w4 h2 h3 h4; clear h4; rw [flRn_snoc] at h2; have H2 := Lib.hid h2; have H3 := Lib.hid h3; clear h2 h3)
        go_roundw
        case rel =>
          have hbA : Below w.heap.size w ((wx.drewN nq).alloc (.cells #[.int .i64 (k : Int), .int .i64 x.1, .int .i64 x.2.1, .bool x.2.2.1, .int .i64 x.2.2.2] 60)) := to_ (to_ HBX.out (drew_below _ _)) (alloc_ _ _)
          refine ⟨k + 1, by omega, by go_num, ?_, hbA.grown H3.out hbA.size fun r e => (HOX.out.lt r e).1⟩
          rw [HX.out, List.length_append]
          exact H2.out
        case measure => simp [intOf]; omega
      · obtain ⟨ad1, e9, _, c0, c1, c2, c3⟩ := HR.out wr hbel (k - 1) (by omega)
        injection e9 with e9
        subst e9
        have hk1 : (1 : Int) ≤ (k : Int) := by omega
        have hknz : ¬ k = 0 := by omega
        have hkz : ((k : Int) == 0) = false := by simp; omega
        have hkn1 : k - 1 < n := by omega
        obtain ⟨y, hy⟩ : ∃ y, roAt rows (k - 1) = y := ⟨_, rfl⟩
        rw [hy] at c0 c1 c2 c3
        replace c0 := (hbx.cell (World.block_lt_of_cell? _ _ c0)).trans c0
        replace c1 := (hbx.cell (World.block_lt_of_cell? _ _ c1)).trans c1
        replace c2 := (hbx.cell (World.block_lt_of_cell? _ _ c2)).trans c2
        replace c3 := (hbx.cell (World.block_lt_of_cell? _ _ c3)).trans c3
        by_cases hxy : x = y
        · have HX := Lib.hid (show mkT rows (k + 1) = mkT rows k from mkT_no (fun hh => by
            rcases hh with hh | hh
            · omega
            · exact hh (by rw [hx, hy]; exact hxy)))
          subst hxy
          clear hx hy hk0 hbel hbx
          go_wp2_with fail
          go_quiet (fail)
          go_wp2_with fail
          go_roundw
          case rel => exact ⟨k + 1, by omega, by go_num, by rw [HX.out]; exact ownk_keep HOX.out (fun g _ _ => rfl), to_ HBX.out (drew_below _ _)⟩
          case measure => simp [intOf]; omega
        · have HX := Lib.hid (show mkT rows (k + 1) = mkT rows k ++ [((k : Int), x)] from by rw [← hx]; exact mkT_yes (.inr (by rw [hx, hy]; exact hxy)))
          have hcs := ne_cases hxy
          clear hx hy hxy hk0 hbel hbx
          rcases hcs with hcs | ⟨q1, hcs⟩ | ⟨q1, q2, hcs⟩ | ⟨q1, q2, q3, hcs⟩
          · go_wp2_with fail
            go_quiet (fail)
            go_wp2_with (at_builtin; refine wpList_append_own _ rfl _ _ 23 rfl w.heap.size 60 i0 (.agg #[.int .i64 0, .int .i64 0, .int .i64 0, .bool false, .int .i64 0]) 5 40 Try.underlying23 hi hz0 hz1 hz2 rfl (by decide) _ _ _ rfl (ownk_keep HOX.out fun g _ hg => Below.heap_alloc _ _ _ hg) ⟨wx.heap.size, 0, none⟩ 1 1 (encRn ((k : Int), x)) rfl rfl (fun j u hu => by rw [add_plain, Nat.zero_add]; exact ((Blk.new (wx.drewN nq) _ _).cell j).trans (by simpa [encRn] using hu)) (by simp [encRn, Value.oneCell']) (by have := HLEN.out; unfold maxLen; omega) (by have := HLEN.out; omega) (by have := HBX.out.size; simp; omega) ?_; intro v' w4 h2 h3 h4; clear h4; rw [flRn_snoc] at h2; have H2 := Lib.hid h2; have H3 := Lib.hid h3; clear h2 h3)
            go_roundw
            case rel =>
              have hbA : Below w.heap.size w ((wx.drewN nq).alloc (.cells #[.int .i64 (k : Int), .int .i64 x.1, .int .i64 x.2.1, .bool x.2.2.1, .int .i64 x.2.2.2] 60)) := to_ (to_ HBX.out (drew_below _ _)) (alloc_ _ _)
              refine ⟨k + 1, by omega, by go_num, ?_, hbA.grown H3.out hbA.size fun r e => (HOX.out.lt r e).1⟩
              rw [HX.out, List.length_append]
              exact H2.out
            case measure => simp [intOf]; omega
          · rw [← q1] at c0
            clear q1
            go_wp2_with fail
            go_quiet (fail)
            go_wp2_with (at_builtin; refine wpList_append_own _ rfl _ _ 23 rfl w.heap.size 60 i0 (.agg #[.int .i64 0, .int .i64 0, .int .i64 0, .bool false, .int .i64 0]) 5 40 Try.underlying23 hi hz0 hz1 hz2 rfl (by decide) _ _ _ rfl (ownk_keep HOX.out fun g _ hg => Below.heap_alloc _ _ _ hg) ⟨wx.heap.size, 0, none⟩ 1 1 (encRn ((k : Int), x)) rfl rfl (fun j u hu => by rw [add_plain, Nat.zero_add]; exact ((Blk.new (wx.drewN nq) _ _).cell j).trans (by simpa [encRn] using hu)) (by simp [encRn, Value.oneCell']) (by have := HLEN.out; unfold maxLen; omega) (by have := HLEN.out; omega) (by have := HBX.out.size; simp; omega) ?_; intro v' w4 h2 h3 h4; clear h4; rw [flRn_snoc] at h2; have H2 := Lib.hid h2; have H3 := Lib.hid h3; clear h2 h3)
            go_roundw
            case rel =>
              have hbA : Below w.heap.size w ((wx.drewN nq).alloc (.cells #[.int .i64 (k : Int), .int .i64 x.1, .int .i64 x.2.1, .bool x.2.2.1, .int .i64 x.2.2.2] 60)) := to_ (to_ HBX.out (drew_below _ _)) (alloc_ _ _)
              refine ⟨k + 1, by omega, by go_num, ?_, hbA.grown H3.out hbA.size fun r e => (HOX.out.lt r e).1⟩
              rw [HX.out, List.length_append]
              exact H2.out
            case measure => simp [intOf]; omega
          · rw [← q1] at c0
            clear q1
            rw [← q2] at c1
            clear q2
            go_wp2_with fail
            go_quiet (fail)
            go_wp2_with (at_builtin; refine wpList_append_own _ rfl _ _ 23 rfl w.heap.size 60 i0 (.agg #[.int .i64 0, .int .i64 0, .int .i64 0, .bool false, .int .i64 0]) 5 40 Try.underlying23 hi hz0 hz1 hz2 rfl (by decide) _ _ _ rfl (ownk_keep HOX.out fun g _ hg => Below.heap_alloc _ _ _ hg) ⟨wx.heap.size, 0, none⟩ 1 1 (encRn ((k : Int), x)) rfl rfl (fun j u hu => by rw [add_plain, Nat.zero_add]; exact ((Blk.new (wx.drewN nq) _ _).cell j).trans (by simpa [encRn] using hu)) (by simp [encRn, Value.oneCell']) (by have := HLEN.out; unfold maxLen; omega) (by have := HLEN.out; omega) (by have := HBX.out.size; simp; omega) ?_; intro v' w4 h2 h3 h4; clear h4; rw [flRn_snoc] at h2; have H2 := Lib.hid h2; have H3 := Lib.hid h3; clear h2 h3)
            go_roundw
            case rel =>
              have hbA : Below w.heap.size w ((wx.drewN nq).alloc (.cells #[.int .i64 (k : Int), .int .i64 x.1, .int .i64 x.2.1, .bool x.2.2.1, .int .i64 x.2.2.2] 60)) := to_ (to_ HBX.out (drew_below _ _)) (alloc_ _ _)
              refine ⟨k + 1, by omega, by go_num, ?_, hbA.grown H3.out hbA.size fun r e => (HOX.out.lt r e).1⟩
              rw [HX.out, List.length_append]
              exact H2.out
            case measure => simp [intOf]; omega
          · rw [← q1] at c0
            clear q1
            rw [← q2] at c1
            clear q2
            rw [← q3] at c2
            clear q3
            go_wp2_with fail
            go_quiet (fail)
            go_wp2_with (at_builtin; refine wpList_append_own _ rfl _ _ 23 rfl w.heap.size 60 i0 (.agg #[.int .i64 0, .int .i64 0, .int .i64 0, .bool false, .int .i64 0]) 5 40 Try.underlying23 hi hz0 hz1 hz2 rfl (by decide) _ _ _ rfl (ownk_keep HOX.out fun g _ hg => Below.heap_alloc _ _ _ hg) ⟨wx.heap.size, 0, none⟩ 1 1 (encRn ((k : Int), x)) rfl rfl (fun j u hu => by rw [add_plain, Nat.zero_add]; exact ((Blk.new (wx.drewN nq) _ _).cell j).trans (by simpa [encRn] using hu)) (by simp [encRn, Value.oneCell']) (by have := HLEN.out; unfold maxLen; omega) (by have := HLEN.out; omega) (by have := HBX.out.size; simp; omega) ?_; intro v' w4 h2 h3 h4; clear h4; rw [flRn_snoc] at h2; have H2 := Lib.hid h2; have H3 := Lib.hid h3; clear h2 h3)
            go_roundw
            case rel =>
              have hbA : Below w.heap.size w ((wx.drewN nq).alloc (.cells #[.int .i64 (k : Int), .int .i64 x.1, .int .i64 x.2.1, .bool x.2.2.1, .int .i64 x.2.2.2] 60)) := to_ (to_ HBX.out (drew_below _ _)) (alloc_ _ _)
              refine ⟨k + 1, by omega, by go_num, ?_, hbA.grown H3.out hbA.size fun r e => (HOX.out.lt r e).1⟩
              rw [HX.out, List.length_append]
              exact H2.out
            case measure => simp [intOf]; omega
    · obtain rfl : k = n := by omega
      obtain ⟨A2, c2, rfl, hl⟩ := RnL.own rfl HOW.out
      have HL := Lib.hid hl
      clear hbel hl
      go_wp2_with fail
      go_ret
      exact ⟨A2, c2, rfl, HL.out, HBE.out⟩

end Go.Proofs.Ytckpbdphilifoaa.By
