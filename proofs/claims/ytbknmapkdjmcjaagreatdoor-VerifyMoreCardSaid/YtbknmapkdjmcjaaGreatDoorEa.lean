/-
  WALKS of layer 15: words, references and symbols in memory; data as bytes: Put.
-/
import Derived.Test.YtbknmapkdjmcjaaGreatDoorEo
namespace Go.Proofs.YtbknmapkdjmcjaaGreatDoor.By
open Go.RowKit
open Mem Gm Rf
set_option linter.unusedSimpArgs false
set_option linter.unusedVariables false

/-- A reference: At, Sym, Wide. -/
abbrev Rl := Int × Int × Bool
/-- A symbol: its name, whether it is local, Sort, Kind, Def. -/
abbrev Sy := ByteArray × Bool × Int × Int × Int
def encRl (x : Rl) : List Value := [.int .i64 x.1, .int .i64 x.2.1, .bool x.2.2]
def encSy (x : Sy) : List Value := [.string x.1, .bool x.2.1, .int .i64 x.2.2.1, .int .i64 x.2.2.2.1, .int .i64 x.2.2.2.2]
def rlAt (l : List Rl) (i : Nat) : Rl := l.getD i (0, 0, false)
def syAt (l : List Sy) (i : Nat) : Sy := l.getD i (⟨#[]⟩, false, 0, 0, 0)
theorem rlAt_some {l : List Rl} {i : Nat} (h : i < l.length) : l[i]? = some (rlAt l i) := by unfold rlAt; rw [List.getD_eq_getElem?_getD, List.getElem?_eq_getElem h]; rfl
theorem syAt_some {l : List Sy} {i : Nat} (h : i < l.length) : l[i]? = some (syAt l i) := by unfold syAt; rw [List.getD_eq_getElem?_getD, List.getElem?_eq_getElem h]; rfl
def RlL (w : World) (A : Option Addr) (n c : Nat) (l : List Rl) : Prop := Wd 3 encRl w w.heap.size A n c l
def SyL (w : World) (A : Option Addr) (n c : Nat) (l : List Sy) : Prop := Wd 5 encSy w w.heap.size A n c l
theorem RlL.at_ {w : World} {A : Option Addr} {n c : Nat} {l : List Rl} (h : RlL w A n c l) {i : Nat} (hi : i < n) :
    ∃ ad, A = some ad ∧ ad.block < w.heap.size ∧ w.cell? (ad.add (i * 3)) = some (.int .i64 (rlAt l i).1) ∧ w.cell? ⟨(ad.add (i * 3)).block, (ad.add (i * 3)).off + 1, none⟩ = some (.int .i64 (rlAt l i).2.1) ∧ w.cell? ⟨(ad.add (i * 3)).block, (ad.add (i * 3)).off + 2, none⟩ = some (.bool (rlAt l i).2.2) := by
  obtain ⟨ad, e, hb, hc⟩ := h.2.2.2.2 i _ (rlAt_some (by rw [h.1]; exact hi))
  have h0 := hc 0 _ rfl
  have h1 := hc 1 _ rfl
  have h2 := hc 2 _ rfl
  rw [add_field _ 1 (by omega)] at h1
  rw [add_field _ 2 (by omega)] at h2
  exact ⟨ad, e, hb, h0, h1, h2⟩
theorem SyL.at_ {w : World} {A : Option Addr} {n c : Nat} {l : List Sy} (h : SyL w A n c l) {i : Nat} (hi : i < n) :
    ∃ ad, A = some ad ∧ ad.block < w.heap.size ∧ w.cell? (ad.add (i * 5)) = some (.string (syAt l i).1) ∧ w.cell? ⟨(ad.add (i * 5)).block, (ad.add (i * 5)).off + 1, none⟩ = some (.bool (syAt l i).2.1) ∧ w.cell? ⟨(ad.add (i * 5)).block, (ad.add (i * 5)).off + 2, none⟩ = some (.int .i64 (syAt l i).2.2.1) ∧ w.cell? ⟨(ad.add (i * 5)).block, (ad.add (i * 5)).off + 3, none⟩ = some (.int .i64 (syAt l i).2.2.2.1) ∧ w.cell? ⟨(ad.add (i * 5)).block, (ad.add (i * 5)).off + 4, none⟩ = some (.int .i64 (syAt l i).2.2.2.2) := by
  obtain ⟨ad, e, hb, hc⟩ := h.2.2.2.2 i _ (syAt_some (by rw [h.1]; exact hi))
  have h0 := hc 0 _ rfl
  have h1 := hc 1 _ rfl
  have h2 := hc 2 _ rfl
  have h3 := hc 3 _ rfl
  have h4 := hc 4 _ rfl
  rw [add_field _ 1 (by omega)] at h1
  rw [add_field _ 2 (by omega)] at h2
  rw [add_field _ 3 (by omega)] at h3
  rw [add_field _ 4 (by omega)] at h4
  exact ⟨ad, e, hb, h0, h1, h2, h3, h4⟩
theorem RlL.on {w w' : World} {A : Option Addr} {n c : Nat} {l : List Rl} (h : RlL w A n c l) (hb : Below w.heap.size w w') : RlL w' A n c l := (Wd.below h hb).more hb.size
theorem SyL.on {w w' : World} {A : Option Addr} {n c : Nat} {l : List Sy} (h : SyL w A n c l) (hb : Below w.heap.size w w') : SyL w' A n c l := (Wd.below h hb).more hb.size
theorem RlL.few {w : World} {A : Option Addr} {n c : Nat} {l : List Rl} (h : RlL w A n c l) : n ≤ 9223372036854775807 := by
  have h1 := h.2.1
  have h2 := h.2.2.1
  unfold maxLen at h2; omega
theorem SyL.few {w : World} {A : Option Addr} {n c : Nat} {l : List Sy} (h : SyL w A n c l) : n ≤ 9223372036854775807 := by
  have h1 := h.2.1
  have h2 := h.2.2.1
  unfold maxLen at h2; omega
theorem iw_cell {w : World} {A : Option Addr} {n c : Nat} {l : List Int} (h : IW w (.slice A n c) l) (hn : l.length = n) {i : Nat} (hi : i < n) : ∃ ad, A = some ad ∧ ad.block < w.heap.size ∧ w.cell? (ad.add i) = some (.int .i64 (el l i)) := by
  subst hn
  rcases ints_row h with ⟨rfl, _⟩ | ⟨ad, e, hb, hc⟩
  · simp at hi
  · exact ⟨ad, e, hb, hc i hi⟩
theorem blk3 {w : World} {g : Nat} {t : TypeId} {x0 x1 x2 : Value} (h : Blk w g t #[x0, x1, x2]) : w.cell? ⟨g, 0, none⟩ = some x0 ∧ w.cell? ⟨g, 1, none⟩ = some x1 ∧ w.cell? ⟨g, 2, none⟩ = some x2 := ⟨h.cell 0, h.cell 1, h.cell 2⟩
theorem drew_below (W : World) : Below W.heap.size W W.drew := ⟨rfl, rfl, rfl, Nat.le_refl _, fun _ _ => rfl⟩

/-- Bytes that are answered. -/
def BAn (bs : List UInt8) (w : World) (e : Ending) (w' : World) : Prop := ∃ A c, e = .returned (.slice A bs.length c) ∧ SlV w' w'.heap.size (.slice A bs.length c) (u8s bs) ∧ Below w.heap.size w w'
theorem ban_of {bs : List UInt8} {w w' : World} {e : Ending} (h : Owns w (u8s bs) e w') : BAn bs w e w' := by
  obtain ⟨v, rfl, h1, h2⟩ := h
  have h3 := SlV.of_own h1
  obtain ⟨A, c, rfl⟩ := own_formW h1
  rw [u8s_length] at h3 ⊢
  exact ⟨A, c, rfl, h3, h2⟩
def pvb (p : Option Addr × Nat × List UInt8) : Value := .slice p.1 p.2.2.length p.2.1
theorem cat_any (W : World) (ps : List (Option Addr × Nat × List UInt8)) (k : Nat) (cs : Array Value) (t : TypeId) (hk : ps.length = k) (hcs : cs.toList = ps.map pvb) (hp : ∀ p ∈ ps, SlV W W.heap.size (pvb p) (u8s p.2.2)) (hl : (ps.flatMap fun p => p.2.2).length ≤ 100000000) (hk9 : k ≤ 1000) :
    Calls Tryz.prog 68 #[.slice (some ⟨W.heap.size, 0, none⟩) k k] (W.alloc (.cells cs t)) (BAn (ps.flatMap fun p => p.2.2) (W.alloc (.cells cs t))) := by
  have hb := alloc_ W (.cells cs t)
  have e1 : ∀ p : Option Addr × Nat × List UInt8, pv (p.1, p.2.1, u8s p.2.2) = pvb p := fun p => by unfold pv pvb; rw [u8s_length]
  have hfl : flat (ps.map fun p => (p.1, p.2.1, u8s p.2.2)) (ps.map fun p => (p.1, p.2.1, u8s p.2.2)).length = u8s (ps.flatMap fun p => p.2.2) := by
    unfold flat
    rw [List.take_length, List.map_map]
    clear hk hcs hp hl hk9
    induction ps with
    | nil => rfl
    | cons p ps ih => rw [List.map_cons, List.flatten_cons, ih, List.flatMap_cons, u8s_append]; rfl
  have h := concat_any W.heap.size W.heap.size (ps.map fun p => (p.1, p.2.1, u8s p.2.2)) (W.alloc (.cells cs t))
    (fun j hj => by
      have hj' : j < ps.length := by simpa using hj
      rw [(Blk.new W _ _).cell, ← Array.getElem?_toList, hcs, List.getElem?_map, List.getElem?_eq_getElem hj', List.getElem_map, e1]; rfl)
    hb.size
    (fun p hpp => by
      obtain ⟨q, hq, rfl⟩ := List.mem_map.1 hpp
      rw [e1]; exact (hp q hq).below hb)
    (fun p hpp => by
      obtain ⟨q, hq, rfl⟩ := List.mem_map.1 hpp
      exact u8s_one _)
    (by rw [hfl, u8s_length]; omega) (by rw [List.length_map]; omega)
  rw [hfl, List.length_map, hk] at h
  exact h.mono fun e w' hh => ban_of hh

/-- The same, with a name for how many. -/
def BnN (N : Nat) (bs : List UInt8) (w : World) (e : Ending) (w' : World) : Prop := ∃ A c, e = .returned (.slice A N c) ∧ SlV w' w'.heap.size (.slice A N c) (u8s bs) ∧ Below w.heap.size w w'
theorem ban_n {N : Nat} {bs cs : List UInt8} {w w' : World} {e : Ending} (hc : cs = bs) (hN : bs.length = N) (h : BAn cs w e w') : BnN N bs w e w' := by subst hc hN; exact h
theorem n_ban {N : Nat} {bs : List UInt8} {w w' : World} {e : Ending} (hN : bs.length = N) (h : BnN N bs w e w') : BAn bs w e w' := by subst hN; exact h

def wsB (l : List Int) : List UInt8 := l.flatMap fun n => putB n 8
def rlB (x : Rl) : List UInt8 := putB x.1 1 ++ putB x.2.1 1 ++ putB (fl x.2.2) 1
def rlsB (l : List Rl) : List UInt8 := l.flatMap rlB
def dtB (kd : Int) (ws : List Int) (rs : List Rl) : List UInt8 := putB kd 1 ++ (putB (ws.length : Int) 1 ++ wsB ws) ++ (putB (rs.length : Int) 1 ++ rlsB rs)
theorem putB8 (n : Int) : (putB n 8).length = 8 := by unfold putB; rw [if_pos (by omega)]; exact be_length ..
theorem wsB_len (l : List Int) : (wsB l).length = 8 * l.length := by
  unfold wsB
  induction l with
  | nil => rfl
  | cons a l ih => rw [List.flatMap_cons, List.length_append, ih, putB8, List.length_cons]; omega
theorem rlB_len (x : Rl) : (rlB x).length = 3 := by unfold rlB; simp [putB1]
theorem rlsB_len (l : List Rl) : (rlsB l).length = 3 * l.length := by
  unfold rlsB
  induction l with
  | nil => rfl
  | cons a l ih => rw [List.flatMap_cons, List.length_append, ih, rlB_len, List.length_cons]; omega
theorem wsB_next {l : List Int} {k : Nat} (h : k < l.length) : wsB (l.take (k + 1)) = wsB (l.take k) ++ putB (el l k) 8 := by
  unfold wsB
  rw [List.take_succ_eq_append_getElem h, List.flatMap_append, el_at h]
  simp
theorem rlsB_next {l : List Rl} {k : Nat} (h : k < l.length) : rlsB (l.take (k + 1)) = rlsB (l.take k) ++ rlB (rlAt l k) := by
  have e := rlAt_some h
  rw [List.getElem?_eq_getElem h] at e
  injection e with e
  unfold rlsB
  rw [List.take_succ_eq_append_getElem h, List.flatMap_append, e]
  simp

theorem number_any (n : Int) (w : World) : Calls Tryz.prog 305 #[.int .i64 n] w (Owns w (u8s (putB n 1))) := by
  have HP := Lib.hid (fun W (n k : Int) => put_any (.slice none 0 0) [] n k W .nil (by simp) (by simp))
  go_enter Tryz.func305, Tryz.ntmps305
  go_wp2_with (go_at_call 150; refine (HP.out _ _ _).mono ?_; rintro e w1 ⟨v1, rfl, ho1, hb1⟩; rw [List.nil_append] at ho1; have HO1 := Lib.hid ho1; have HB1 := Lib.hid hb1; clear ho1 hb1)
  go_ret
  exact ⟨_, rfl, HO1.out, HB1.out⟩
theorem ofWord_any (n : Int) (w : World) : Calls Tryz.prog 307 #[.int .i64 n] w (Owns w (u8s (putB n 8))) := by
  have HP := Lib.hid (fun W (n k : Int) => put_any (.slice none 0 0) [] n k W .nil (by simp) (by simp))
  go_enter Tryz.func307, Tryz.ntmps307
  go_wp2_with (go_at_call 150; refine (HP.out _ _ _).mono ?_; rintro e w1 ⟨v1, rfl, ho1, hb1⟩; rw [List.nil_append] at ho1; have HO1 := Lib.hid ho1; have HB1 := Lib.hid hb1; clear ho1 hb1)
  go_ret
  exact ⟨_, rfl, HO1.out, HB1.out⟩

set_option maxRecDepth 100000 in
set_option maxHeartbeats 2000000 in
theorem listW_any (w : World) (A : Option Addr) (n c : Nat) (l : List Int) (h : IW w (.slice A n c) l) (hL : l.length = n) (hn : n ≤ 100000) :
    Calls Tryz.prog 306 #[.slice A n c, .func (.func 307) #[] #[]] w (Owns w (u8s (putB (n : Int) 1 ++ wsB l))) := by
  obtain ⟨i0, hi, hz0, hz1, hz2⟩ := info_parts info5
  have HN := Lib.hid (fun n W => number_any n W)
  have HW := Lib.hid (fun n W => ofWord_any n W)
  have HR := Lib.hid (fun W (hb : Below w.heap.size w W) i (hi : i < n) => iw_cell (h.on hb) hL hi)
  have HL := Lib.hid hL
  clear h hL
  go_enter Tryz.func306, Tryz.ntmps306
  go_wp2_with (go_at_call 305; refine (HN.out _ _).mono ?_; rintro e w1 ⟨v1, rfl, ho1, hb1⟩; have HO1 := Lib.hid ho1; have HB1 := Lib.hid hb1; clear ho1 hb1)
  go_loopw [5, 13] (fun v i wr => ∃ k : Nat, k ≤ n ∧ i = .int .i64 (k : Int) ∧ wr.ownsRow w.heap.size 5 1 v (u8s (putB (n : Int) 1 ++ wsB (l.take k))).length (u8s (putB (n : Int) 1 ++ wsB (l.take k))) ∧ Below w.heap.size w wr) (fun _ i _ => n - (intOf i).toNat)
  case atStart => exact ⟨0, Nat.zero_le _, rfl, by rw [List.take_zero, show wsB [] = [] from rfl, List.append_nil]; exact HO1.out, HB1.out⟩
  case round =>
    obtain ⟨k, hk, rfl, hown, hbel⟩ := hrel
    have HOW := Lib.hid hown
    have HBE := Lib.hid hbel
    by_cases hlt : k < n
    · have hkI : (k : Int) < (n : Int) := by omega
      obtain ⟨ad, rfl, _, c0⟩ := HR.out wr hbel k hlt
      have HNX := Lib.hid (wsB_next (l := l) (k := k) (by rw [HL.out]; exact hlt))
      have HLEN := Lib.hid (show (u8s (putB (n : Int) 1 ++ wsB (l.take k))).length ≤ 1 + 8 * n by rw [u8s_length, List.length_append, putB1, wsB_len, List.length_take]; omega)
      generalize el l k = x at HNX c0
      have HXL := Lib.hid (show (u8s (putB x 8)).length = 8 by rw [u8s_length, putB8])
      clear hown hbel
      go_wp2_with (first
        | (go_at_call 307; refine (HW.out _ _).mono ?_; rintro e w9 ⟨v9, rfl, ho9, hb9⟩; have HO9 := Lib.hid ho9; have HB9 := Lib.hid hb9; clear ho9 hb9)
        | (at_builtin; go_loud (refine wpList_append_slv _ rfl _ _ 35 rfl w.heap.size 5 i0 (.int .u8 0) 1 Tryz.underlying35 hi hz0 hz1 hz2 rfl _ _ rfl (ownk_keep HOW.out fun g _ hg => HB9.out.block g hg) _ v9 (u8s (putB x 8)) rfl (SlV.of_own HO9.out) (u8s_one _) (by have := HLEN.out; have := HXL.out; unfold maxLen; omega) (by have := HLEN.out; have := HXL.out; omega) (by have := HBE.out.size; have := HB9.out.size; omega) ?_; intro v' w4 h2 h3; have H2 := Lib.hid h2; have H3 := Lib.hid h3; clear h2 h3)))
      go_roundw
      case rel =>
        have hb9 := to_ HBE.out HB9.out
        refine ⟨k + 1, by omega, by go_num, ?_, hb9.grown H3.out hb9.size fun r e => (HOW.out.lt r e).1⟩
        have h9 := H2.out
        rw [← u8s_append, List.append_assoc, ← HNX.out] at h9
        exact h9
      case measure => simp [intOf]; omega
    · obtain rfl : k = n := by omega
      rw [show l.take k = l from List.take_of_length_le (by rw [HL.out]; exact Nat.le_refl _)] at HOW
      clear hown hbel
      go_wp2_with fail
      go_ret
      exact ⟨_, rfl, HOW.out, HBE.out⟩

set_option maxRecDepth 100000 in
set_option maxHeartbeats 4000000 in
theorem ofRef_any (x : Rl) (w : World) : Calls Tryz.prog 309 #[.agg #[.int .i64 x.1, .int .i64 x.2.1, .bool x.2.2]] w (BAn (rlB x) w) := by
  obtain ⟨x0, x1, x2⟩ := x
  obtain ⟨W1, hW1⟩ : ∃ W1, w.alloc (.cells #[.int .i64 x0, .int .i64 x1, .bool x2] 82) = W1 := ⟨_, rfl⟩
  have hsz1 : w.heap.size < W1.heap.size := by rw [← hW1]; simp
  have HB0 := Lib.hid (show Below w.heap.size w W1 by rw [← hW1]; exact alloc_ _ _)
  have HX := Lib.hid (show ∀ W, Below W1.heap.size W1 W → Blk W w.heap.size 82 #[.int .i64 x0, .int .i64 x1, .bool x2] from fun W hb => (hb.block _ hsz1).trans (by rw [← hW1]; exact Blk.new w _ _))
  have HN := Lib.hid (fun n W => (number_any n W).mono fun _ _ hh => ban_of hh)
  have HFV := Lib.hid (show rlB (x0, x1, x2) = putB x0 1 ++ putB x1 1 ++ putB (fl x2) 1 from rfl)
  have HLN := Lib.hid (fun n => putB1 n)
  have hHeld := blk3 (HX.out W1.drew (drew_below W1))
  have HD0 := Lib.hid (drew_below W1)
  obtain ⟨N, hN⟩ : ∃ N, (rlB (x0, x1, x2)).length = N := ⟨_, rfl⟩
  have HN9 := Lib.hid hN
  clear hN
  cases x2
  · obtain ⟨c0, c1, c2⟩ := blk3 (HX.out W1 (Below.refl _ _))
    go_enter Tryz.func309, Tryz.ntmps309
    go_wp2_with fail
    clear hW1 c0 c1 c2
    refine wp_region_noPanic ?_
    refine wp_region_held_drew (S := fun W' => W'.cell? ⟨w.heap.size, 0, none⟩ = some (.int .i64 x0) ∧ W'.cell? ⟨w.heap.size, 1, none⟩ = some (.int .i64 x1) ∧ W'.cell? ⟨w.heap.size, 2, none⟩ = some (.bool _)) (by kernel_rfl) (hHeld) (fun hHeld => ?_)
    refine wpAnyH_take (i := 0) rfl (by kernel_rfl) (by kernel_rfl) (by kernel_rfl) (fun _ _ _ h => h) (Or.inl ⟨by rfl, by intro W hSW; (try dsimp only at hSW); go_simp; try (with_reducible rfl)⟩) hHeld ?_
    try simp only [Act.put, List.getElem_toArray, List.getElem_cons_zero, List.getElem_cons_succ, List.setIfInBounds_toArray, List.set_cons_zero, List.set_cons_succ]
    refine wpAnyH_take (i := 1) rfl (by kernel_rfl) (by kernel_rfl) (by kernel_rfl) (fun _ _ _ h => h) (Or.inl ⟨by rfl, by intro W hSW; (try dsimp only at hSW); go_simp; try (with_reducible rfl)⟩) hHeld ?_
    try simp only [Act.put, List.getElem_toArray, List.getElem_cons_zero, List.getElem_cons_succ, List.setIfInBounds_toArray, List.set_cons_zero, List.set_cons_succ]
    refine wpAnyH_take (i := 3) rfl (by kernel_rfl) (by kernel_rfl) (by kernel_rfl) (fun _ _ _ h => h) (Or.inl ⟨by rfl, by intro W hSW; (try dsimp only at hSW); go_simp; try (with_reducible rfl)⟩) hHeld ?_
    try simp only [Act.put, List.getElem_toArray, List.getElem_cons_zero, List.getElem_cons_succ, List.setIfInBounds_toArray, List.set_cons_zero, List.set_cons_succ]
    refine wpAnyH_take (i := 4) rfl (by kernel_rfl) (by kernel_rfl) (by kernel_rfl) (fun _ _ _ h => h) (Or.inl ⟨by rfl, by intro W hSW; (try dsimp only at hSW); go_simp; try (with_reducible rfl)⟩) hHeld ?_
    try simp only [Act.put, List.getElem_toArray, List.getElem_cons_zero, List.getElem_cons_succ, List.setIfInBounds_toArray, List.set_cons_zero, List.set_cons_succ]
    refine wpAnyH_take (i := 6) rfl (by kernel_rfl) (by kernel_rfl) (by kernel_rfl) (fun _ _ _ h => h) (Or.inl ⟨by rfl, by intro W hSW; (try dsimp only at hSW); go_simp; try (with_reducible rfl)⟩) hHeld ?_
    try simp only [Act.put, List.getElem_toArray, List.getElem_cons_zero, List.getElem_cons_succ, List.setIfInBounds_toArray, List.set_cons_zero, List.set_cons_succ]
    refine wpAnyH_ready (rs := [2]) (by kernel_rfl) (by simp) ?_
    refine AllReadyH.cons rfl (fun K hK => ?_) AllReadyH.nil
    go_simp
    refine (HN.out _ _).mono ?_
    rintro e w2 ⟨A2, c2, rfl, h2, b2⟩
    have H2 := Lib.hid h2
    have HB2 := Lib.hid (to_ HD0.out b2)
    clear h2 b2
    try go_wp2_with fail
    refine hK.out _ _ (blk3 (HX.out _ HB2.out)) ?_
    clear hK K hHeld
    intro hHeld
    try simp only [Act.put, List.getElem_toArray, List.getElem_cons_zero, List.getElem_cons_succ, List.setIfInBounds_toArray, List.set_cons_zero, List.set_cons_succ]
    refine wpAnyH_ready (rs := [5]) (by kernel_rfl) (by simp) ?_
    refine AllReadyH.cons rfl (fun K hK => ?_) AllReadyH.nil
    go_simp
    refine (HN.out _ _).mono ?_
    rintro e w3 ⟨A3, c3, rfl, h3, b3⟩
    have H3 := Lib.hid h3
    have H23 := Lib.hid ((H2.out.below b3).more b3.size)
    have HB3 := Lib.hid (to_ HB2.out b3)
    clear h3 b3
    try go_wp2_with fail
    refine hK.out _ _ (blk3 (HX.out _ HB3.out)) ?_
    clear hK K hHeld
    intro hHeld
    try simp only [Act.put, List.getElem_toArray, List.getElem_cons_zero, List.getElem_cons_succ, List.setIfInBounds_toArray, List.set_cons_zero, List.set_cons_succ]
    refine wpAnyH_ready (rs := [7]) (by kernel_rfl) (by simp) ?_
    refine AllReadyH.cons rfl (fun K hK => ?_) AllReadyH.nil
    go_simp
    refine (HN.out _ _).mono ?_
    rintro e w4 ⟨A4, c4, rfl, h4, b4⟩
    have H4 := Lib.hid h4
    have H24 := Lib.hid ((H23.out.below b4).more b4.size)
    have H34 := Lib.hid ((H3.out.below b4).more b4.size)
    have HB4 := Lib.hid (to_ HB3.out b4)
    clear h4 b4
    try go_wp2_with fail
    refine hK.out _ _ (blk3 (HX.out _ HB4.out)) ?_
    clear hK K hHeld
    intro hHeld
    try simp only [Act.put, List.getElem_toArray, List.getElem_cons_zero, List.getElem_cons_succ, List.setIfInBounds_toArray, List.set_cons_zero, List.set_cons_succ]
    have HAL := Lib.hid (fun o => alloc_ w4 o)
    refine wpAnyH_ready (rs := [8]) (by kernel_rfl) (by simp) ?_
    refine AllReadyH.cons rfl (fun K hK => ?_) AllReadyH.nil
    go_simp
    refine hK.out _ _ (blk3 (HX.out _ (to_ HB4.out (HAL.out _)))) ?_
    clear hK K hHeld
    intro hHeld
    try simp only [Act.put, List.getElem_toArray, List.getElem_cons_zero, List.getElem_cons_succ, List.setIfInBounds_toArray, List.set_cons_zero, List.set_cons_succ]
    refine wpAnyH_ready (rs := [9]) (by kernel_rfl) (by simp) ?_
    refine AllReadyH.cons rfl (fun K hK => ?_) AllReadyH.nil
    go_simp
    refine ((cat_any w4 [(A2, c2, putB x0 1), (A3, c3, putB x1 1), (A4, c4, putB 0 1)] 3 _ _ rfl rfl (fun p hp => by
          simp only [List.mem_cons, List.not_mem_nil, or_false] at hp
          rcases hp with rfl | rfl | rfl
          · exact H24.out
          · exact H34.out
          · exact H4.out) (by simp only [List.flatMap_cons, List.flatMap_nil, List.length_append, List.append_nil, HLN.out]; omega) (by decide)).mono fun _ _ hh => ban_n (by rw [HFV.out]; simp [fl]) HN9.out hh).mono ?_
    rintro e w5 ⟨A5, c5, rfl, h5, b5⟩
    have HB5 := Lib.hid (to_ (to_ HB4.out (HAL.out _)) b5)
    have H5 := Lib.hid h5
    clear b5 h5
    try go_wp2_with fail
    refine hK.out _ _ (blk3 (HX.out _ HB5.out)) ?_
    clear hK K hHeld
    intro hHeld
    try simp only [Act.put, List.getElem_toArray, List.getElem_cons_zero, List.getElem_cons_succ, List.setIfInBounds_toArray, List.set_cons_zero, List.set_cons_succ]
    refine wpAnyH_take (i := 10) rfl (by kernel_rfl) (by kernel_rfl) (by kernel_rfl) (fun _ _ _ h => h) (Or.inl ⟨by rfl, by intro W hSW; (try dsimp only at hSW); go_simp; try (with_reducible rfl)⟩) hHeld ?_
    try simp only [Act.put, List.getElem_toArray, List.getElem_cons_zero, List.getElem_cons_succ, List.setIfInBounds_toArray, List.set_cons_zero, List.set_cons_succ]
    refine wpAnyH_done (by kernel_rfl) ?_ _
    refine NoPanic.normal ?_
    go_wp2_with fail
    go_ret
    exact n_ban HN9.out ⟨A5, c5, rfl, H5.out, to_ HB0.out HB5.out⟩
  · obtain ⟨c0, c1, c2⟩ := blk3 (HX.out W1 (Below.refl _ _))
    go_enter Tryz.func309, Tryz.ntmps309
    go_wp2_with fail
    clear hW1 c0 c1 c2
    refine wp_region_noPanic ?_
    refine wp_region_held_drew (S := fun W' => W'.cell? ⟨w.heap.size, 0, none⟩ = some (.int .i64 x0) ∧ W'.cell? ⟨w.heap.size, 1, none⟩ = some (.int .i64 x1) ∧ W'.cell? ⟨w.heap.size, 2, none⟩ = some (.bool _)) (by kernel_rfl) (hHeld) (fun hHeld => ?_)
    refine wpAnyH_take (i := 0) rfl (by kernel_rfl) (by kernel_rfl) (by kernel_rfl) (fun _ _ _ h => h) (Or.inl ⟨by rfl, by intro W hSW; (try dsimp only at hSW); go_simp; try (with_reducible rfl)⟩) hHeld ?_
    try simp only [Act.put, List.getElem_toArray, List.getElem_cons_zero, List.getElem_cons_succ, List.setIfInBounds_toArray, List.set_cons_zero, List.set_cons_succ]
    refine wpAnyH_take (i := 1) rfl (by kernel_rfl) (by kernel_rfl) (by kernel_rfl) (fun _ _ _ h => h) (Or.inl ⟨by rfl, by intro W hSW; (try dsimp only at hSW); go_simp; try (with_reducible rfl)⟩) hHeld ?_
    try simp only [Act.put, List.getElem_toArray, List.getElem_cons_zero, List.getElem_cons_succ, List.setIfInBounds_toArray, List.set_cons_zero, List.set_cons_succ]
    refine wpAnyH_take (i := 3) rfl (by kernel_rfl) (by kernel_rfl) (by kernel_rfl) (fun _ _ _ h => h) (Or.inl ⟨by rfl, by intro W hSW; (try dsimp only at hSW); go_simp; try (with_reducible rfl)⟩) hHeld ?_
    try simp only [Act.put, List.getElem_toArray, List.getElem_cons_zero, List.getElem_cons_succ, List.setIfInBounds_toArray, List.set_cons_zero, List.set_cons_succ]
    refine wpAnyH_take (i := 4) rfl (by kernel_rfl) (by kernel_rfl) (by kernel_rfl) (fun _ _ _ h => h) (Or.inl ⟨by rfl, by intro W hSW; (try dsimp only at hSW); go_simp; try (with_reducible rfl)⟩) hHeld ?_
    try simp only [Act.put, List.getElem_toArray, List.getElem_cons_zero, List.getElem_cons_succ, List.setIfInBounds_toArray, List.set_cons_zero, List.set_cons_succ]
    refine wpAnyH_take (i := 6) rfl (by kernel_rfl) (by kernel_rfl) (by kernel_rfl) (fun _ _ _ h => h) (Or.inl ⟨by rfl, by intro W hSW; (try dsimp only at hSW); go_simp; try (with_reducible rfl)⟩) hHeld ?_
    try simp only [Act.put, List.getElem_toArray, List.getElem_cons_zero, List.getElem_cons_succ, List.setIfInBounds_toArray, List.set_cons_zero, List.set_cons_succ]
    refine wpAnyH_ready (rs := [2]) (by kernel_rfl) (by simp) ?_
    refine AllReadyH.cons rfl (fun K hK => ?_) AllReadyH.nil
    go_simp
    refine (HN.out _ _).mono ?_
    rintro e w2 ⟨A2, c2, rfl, h2, b2⟩
    have H2 := Lib.hid h2
    have HB2 := Lib.hid (to_ HD0.out b2)
    clear h2 b2
    try go_wp2_with fail
    refine hK.out _ _ (blk3 (HX.out _ HB2.out)) ?_
    clear hK K hHeld
    intro hHeld
    try simp only [Act.put, List.getElem_toArray, List.getElem_cons_zero, List.getElem_cons_succ, List.setIfInBounds_toArray, List.set_cons_zero, List.set_cons_succ]
    refine wpAnyH_ready (rs := [5]) (by kernel_rfl) (by simp) ?_
    refine AllReadyH.cons rfl (fun K hK => ?_) AllReadyH.nil
    go_simp
    refine (HN.out _ _).mono ?_
    rintro e w3 ⟨A3, c3, rfl, h3, b3⟩
    have H3 := Lib.hid h3
    have H23 := Lib.hid ((H2.out.below b3).more b3.size)
    have HB3 := Lib.hid (to_ HB2.out b3)
    clear h3 b3
    try go_wp2_with fail
    refine hK.out _ _ (blk3 (HX.out _ HB3.out)) ?_
    clear hK K hHeld
    intro hHeld
    try simp only [Act.put, List.getElem_toArray, List.getElem_cons_zero, List.getElem_cons_succ, List.setIfInBounds_toArray, List.set_cons_zero, List.set_cons_succ]
    refine wpAnyH_ready (rs := [7]) (by kernel_rfl) (by simp) ?_
    refine AllReadyH.cons rfl (fun K hK => ?_) AllReadyH.nil
    go_simp
    refine (HN.out _ _).mono ?_
    rintro e w4 ⟨A4, c4, rfl, h4, b4⟩
    have H4 := Lib.hid h4
    have H24 := Lib.hid ((H23.out.below b4).more b4.size)
    have H34 := Lib.hid ((H3.out.below b4).more b4.size)
    have HB4 := Lib.hid (to_ HB3.out b4)
    clear h4 b4
    try go_wp2_with fail
    refine hK.out _ _ (blk3 (HX.out _ HB4.out)) ?_
    clear hK K hHeld
    intro hHeld
    try simp only [Act.put, List.getElem_toArray, List.getElem_cons_zero, List.getElem_cons_succ, List.setIfInBounds_toArray, List.set_cons_zero, List.set_cons_succ]
    have HAL := Lib.hid (fun o => alloc_ w4 o)
    refine wpAnyH_ready (rs := [8]) (by kernel_rfl) (by simp) ?_
    refine AllReadyH.cons rfl (fun K hK => ?_) AllReadyH.nil
    go_simp
    refine hK.out _ _ (blk3 (HX.out _ (to_ HB4.out (HAL.out _)))) ?_
    clear hK K hHeld
    intro hHeld
    try simp only [Act.put, List.getElem_toArray, List.getElem_cons_zero, List.getElem_cons_succ, List.setIfInBounds_toArray, List.set_cons_zero, List.set_cons_succ]
    refine wpAnyH_ready (rs := [9]) (by kernel_rfl) (by simp) ?_
    refine AllReadyH.cons rfl (fun K hK => ?_) AllReadyH.nil
    go_simp
    refine ((cat_any w4 [(A2, c2, putB x0 1), (A3, c3, putB x1 1), (A4, c4, putB 1 1)] 3 _ _ rfl rfl (fun p hp => by
          simp only [List.mem_cons, List.not_mem_nil, or_false] at hp
          rcases hp with rfl | rfl | rfl
          · exact H24.out
          · exact H34.out
          · exact H4.out) (by simp only [List.flatMap_cons, List.flatMap_nil, List.length_append, List.append_nil, HLN.out]; omega) (by decide)).mono fun _ _ hh => ban_n (by rw [HFV.out]; simp [fl]) HN9.out hh).mono ?_
    rintro e w5 ⟨A5, c5, rfl, h5, b5⟩
    have HB5 := Lib.hid (to_ (to_ HB4.out (HAL.out _)) b5)
    have H5 := Lib.hid h5
    clear b5 h5
    try go_wp2_with fail
    refine hK.out _ _ (blk3 (HX.out _ HB5.out)) ?_
    clear hK K hHeld
    intro hHeld
    try simp only [Act.put, List.getElem_toArray, List.getElem_cons_zero, List.getElem_cons_succ, List.setIfInBounds_toArray, List.set_cons_zero, List.set_cons_succ]
    refine wpAnyH_take (i := 10) rfl (by kernel_rfl) (by kernel_rfl) (by kernel_rfl) (fun _ _ _ h => h) (Or.inl ⟨by rfl, by intro W hSW; (try dsimp only at hSW); go_simp; try (with_reducible rfl)⟩) hHeld ?_
    try simp only [Act.put, List.getElem_toArray, List.getElem_cons_zero, List.getElem_cons_succ, List.setIfInBounds_toArray, List.set_cons_zero, List.set_cons_succ]
    refine wpAnyH_done (by kernel_rfl) ?_ _
    refine NoPanic.normal ?_
    go_wp2_with fail
    go_ret
    exact n_ban HN9.out ⟨A5, c5, rfl, H5.out, to_ HB0.out HB5.out⟩

set_option maxRecDepth 100000 in
set_option maxHeartbeats 2000000 in
theorem listR_any (w : World) (A : Option Addr) (n c : Nat) (l : List Rl) (h : RlL w A n c l) (hn : n ≤ 100000) :
    Calls Tryz.prog 308 #[.slice A n c, .func (.func 309) #[] #[]] w (Owns w (u8s (putB (n : Int) 1 ++ rlsB l))) := by
  obtain ⟨i0, hi, hz0, hz1, hz2⟩ := info_parts info5
  have HN := Lib.hid (fun n W => number_any n W)
  have HW := Lib.hid (fun x W => ofRef_any x W)
  have HR := Lib.hid (fun W (hb : Below w.heap.size w W) i (hi : i < n) => (h.on hb).at_ hi)
  have HL := Lib.hid (show l.length = n from h.1)
  clear h
  go_enter Tryz.func308, Tryz.ntmps308
  go_wp2_with (go_at_call 305; refine (HN.out _ _).mono ?_; rintro e w1 ⟨v1, rfl, ho1, hb1⟩; have HO1 := Lib.hid ho1; have HB1 := Lib.hid hb1; clear ho1 hb1)
  go_loopw [5, 13] (fun v i wr => ∃ k : Nat, k ≤ n ∧ i = .int .i64 (k : Int) ∧ wr.ownsRow w.heap.size 5 1 v (u8s (putB (n : Int) 1 ++ rlsB (l.take k))).length (u8s (putB (n : Int) 1 ++ rlsB (l.take k))) ∧ Below w.heap.size w wr) (fun _ i _ => n - (intOf i).toNat)
  case atStart => exact ⟨0, Nat.zero_le _, rfl, by rw [List.take_zero, show rlsB [] = [] from rfl, List.append_nil]; exact HO1.out, HB1.out⟩
  case round =>
    obtain ⟨k, hk, rfl, hown, hbel⟩ := hrel
    have HOW := Lib.hid hown
    have HBE := Lib.hid hbel
    by_cases hlt : k < n
    · have hkI : (k : Int) < (n : Int) := by omega
      obtain ⟨ad, rfl, _, c0, c1, c2⟩ := HR.out wr hbel k hlt
      have HNX := Lib.hid (rlsB_next (l := l) (k := k) (by rw [HL.out]; exact hlt))
      have HLEN := Lib.hid (show (u8s (putB (n : Int) 1 ++ rlsB (l.take k))).length ≤ 1 + 3 * n by rw [u8s_length, List.length_append, putB1, rlsB_len, List.length_take]; omega)
      generalize rlAt l k = x at HNX c0 c1 c2
      have HXL := Lib.hid (show (u8s (rlB x)).length = 3 by rw [u8s_length, rlB_len])
      have HX := Lib.hid (HW.out x)
      have HAL := Lib.hid (alloc_ wr (.cells #[.int .i64 x.1, .int .i64 x.2.1, .bool x.2.2] 82))
      clear hown hbel
      go_wp2_with (first
        | (go_at_call 309; refine (HX.out _).mono ?_; rintro e w9 ⟨A9, c9, rfl, ho9, hb9⟩; have HO9 := Lib.hid ho9; have HB9 := Lib.hid hb9; clear ho9 hb9)
        | (at_builtin; go_loud (refine wpList_append_slv _ rfl _ _ 35 rfl w.heap.size 5 i0 (.int .u8 0) 1 Tryz.underlying35 hi hz0 hz1 hz2 rfl _ _ rfl (ownk_keep HOW.out fun g _ hg => (HB9.out.block g (by simp; omega)).trans (Below.heap_alloc _ _ _ hg)) _ (.slice A9 (rlB x).length c9) (u8s (rlB x)) rfl HO9.out (u8s_one _) (by have := HLEN.out; have := HXL.out; unfold maxLen; omega) (by have := HLEN.out; have := HXL.out; omega) (by have := HBE.out.size; have := HB9.out.size; simp at this; omega) ?_; intro v' w4 h2 h3; have H2 := Lib.hid h2; have H3 := Lib.hid h3; clear h2 h3)))
      go_roundw
      case rel =>
        have hb9 := to_ (to_ HBE.out HAL.out) HB9.out
        refine ⟨k + 1, by omega, by go_num, ?_, hb9.grown H3.out hb9.size fun r e => (HOW.out.lt r e).1⟩
        have h9 := H2.out
        rw [← u8s_append, List.append_assoc, ← HNX.out] at h9
        exact h9
      case measure => simp [intOf]; omega
    · obtain rfl : k = n := by omega
      rw [show l.take k = l from List.take_of_length_le (by rw [HL.out]; exact Nat.le_refl _)] at HOW
      clear hown hbel
      go_wp2_with fail
      go_ret
      exact ⟨_, rfl, HOW.out, HBE.out⟩

set_option maxRecDepth 100000 in
set_option maxHeartbeats 4000000 in
theorem putD_any (w : World) (A2 : Option Addr) (m c2 : Nat) (bs : List UInt8) (kd : Int) (AW AR : Option Addr) (nW cW nR cR : Nat) (ws : List Int) (rs : List Rl) (hm : bs.length = m) (hb : SlV w w.heap.size (.slice A2 m c2) (u8s bs)) (hml : m ≤ 100000) (hW : IW w (.slice AW nW cW) ws) (hWL : ws.length = nW) (hWn : nW ≤ 10000) (hR : RlL w AR nR cR rs) (hRn : nR ≤ 10000) :
    Calls Tryz.prog 276 #[.slice A2 m c2, .agg #[.int .i64 kd, .slice AW nW cW, .slice AR nR cR]] w (BAn (bs ++ dtB kd ws rs) w) := by
  have hRL : rs.length = nR := hR.1
  obtain ⟨W1, hW1⟩ : ∃ W1, w.alloc (.cells #[.int .i64 kd, .slice AW nW cW, .slice AR nR cR] 137) = W1 := ⟨_, rfl⟩
  have hsz1 : w.heap.size < W1.heap.size := by rw [← hW1]; simp
  have HB0 := Lib.hid (show Below w.heap.size w W1 by rw [← hW1]; exact alloc_ _ _)
  have HX := Lib.hid (show ∀ W, Below W1.heap.size W1 W → Blk W w.heap.size 137 #[.int .i64 kd, .slice AW nW cW, .slice AR nR cR] from fun W hb => (hb.block _ hsz1).trans (by rw [← hW1]; exact Blk.new w _ _))
  have HN := Lib.hid (fun n W => (number_any n W).mono fun _ _ hh => ban_of hh)
  have HLW := Lib.hid (fun W (hb : Below w.heap.size w W) => (listW_any W AW nW cW ws (hW.on hb) hWL (by omega)).mono fun _ _ hh => ban_of hh)
  have HLR := Lib.hid (fun W (hb : Below w.heap.size w W) => (listR_any W AR nR cR rs (hR.on hb) (by omega)).mono fun _ _ hh => ban_of hh)
  have HSB := Lib.hid (fun W (hbb : Below w.heap.size w W) => (show SlV W W.heap.size (.slice A2 m c2) (u8s bs) from (hb.below hbb).more hbb.size))
  have HFV := Lib.hid (show dtB kd ws rs = putB kd 1 ++ (putB (nW : Int) 1 ++ wsB ws) ++ (putB (nR : Int) 1 ++ rlsB rs) from by unfold dtB; rw [hWL, hRL])
  have HLL := Lib.hid (show bs.length + (putB kd 1).length + (putB (nW : Int) 1 ++ wsB ws).length + (putB (nR : Int) 1 ++ rlsB rs).length ≤ 1000000 by
    rw [List.length_append, List.length_append, putB1, putB1, putB1, wsB_len, rlsB_len]; omega)
  have HM := Lib.hid hm
  have hHeld := blk3 (HX.out W1.drew (drew_below W1))
  have HD0 := Lib.hid (drew_below W1)
  obtain ⟨N, hN⟩ : ∃ N, (bs ++ dtB kd ws rs).length = N := ⟨_, rfl⟩
  have HN9 := Lib.hid hN
  clear hN hb hm hml hW hWL hWn hR hRn hRL
  go_enter Tryz.func276, Tryz.ntmps276
  go_wp2_with fail
  clear hW1
  refine wp_region_noPanic ?_
  refine wp_region_held_drew (S := fun W' => W'.cell? ⟨w.heap.size, 0, none⟩ = some (.int .i64 kd) ∧ W'.cell? ⟨w.heap.size, 1, none⟩ = some (.slice AW nW cW) ∧ W'.cell? ⟨w.heap.size, 2, none⟩ = some (.slice AR nR cR)) (by kernel_rfl) (hHeld) (fun hHeld => ?_)
  refine wpAnyH_take (i := 0) rfl (by kernel_rfl) (by kernel_rfl) (by kernel_rfl) (fun _ _ _ h => h) (Or.inl ⟨by rfl, by intro W hSW; (try dsimp only at hSW); go_simp; try (with_reducible rfl)⟩) hHeld ?_
  try simp only [Act.put, List.getElem_toArray, List.getElem_cons_zero, List.getElem_cons_succ, List.setIfInBounds_toArray, List.set_cons_zero, List.set_cons_succ]
  refine wpAnyH_take (i := 1) rfl (by kernel_rfl) (by kernel_rfl) (by kernel_rfl) (fun _ _ _ h => h) (Or.inl ⟨by rfl, by intro W hSW; (try dsimp only at hSW); go_simp; try (with_reducible rfl)⟩) hHeld ?_
  try simp only [Act.put, List.getElem_toArray, List.getElem_cons_zero, List.getElem_cons_succ, List.setIfInBounds_toArray, List.set_cons_zero, List.set_cons_succ]
  refine wpAnyH_take (i := 2) rfl (by kernel_rfl) (by kernel_rfl) (by kernel_rfl) (fun _ _ _ h => h) (Or.inl ⟨by rfl, by intro W hSW; (try dsimp only at hSW); go_simp; try (with_reducible rfl)⟩) hHeld ?_
  try simp only [Act.put, List.getElem_toArray, List.getElem_cons_zero, List.getElem_cons_succ, List.setIfInBounds_toArray, List.set_cons_zero, List.set_cons_succ]
  refine wpAnyH_take (i := 4) rfl (by kernel_rfl) (by kernel_rfl) (by kernel_rfl) (fun _ _ _ h => h) (Or.inl ⟨by rfl, by intro W hSW; (try dsimp only at hSW); go_simp; try (with_reducible rfl)⟩) hHeld ?_
  try simp only [Act.put, List.getElem_toArray, List.getElem_cons_zero, List.getElem_cons_succ, List.setIfInBounds_toArray, List.set_cons_zero, List.set_cons_succ]
  refine wpAnyH_take (i := 5) rfl (by kernel_rfl) (by kernel_rfl) (by kernel_rfl) (fun _ _ _ h => h) (Or.inl ⟨by rfl, by intro W hSW; (try dsimp only at hSW); go_simp; try (with_reducible rfl)⟩) hHeld ?_
  try simp only [Act.put, List.getElem_toArray, List.getElem_cons_zero, List.getElem_cons_succ, List.setIfInBounds_toArray, List.set_cons_zero, List.set_cons_succ]
  refine wpAnyH_take (i := 7) rfl (by kernel_rfl) (by kernel_rfl) (by kernel_rfl) (fun _ _ _ h => h) (Or.inl ⟨by rfl, by intro W hSW; (try dsimp only at hSW); go_simp; try (with_reducible rfl)⟩) hHeld ?_
  try simp only [Act.put, List.getElem_toArray, List.getElem_cons_zero, List.getElem_cons_succ, List.setIfInBounds_toArray, List.set_cons_zero, List.set_cons_succ]
  refine wpAnyH_take (i := 8) rfl (by kernel_rfl) (by kernel_rfl) (by kernel_rfl) (fun _ _ _ h => h) (Or.inl ⟨by rfl, by intro W hSW; (try dsimp only at hSW); go_simp; try (with_reducible rfl)⟩) hHeld ?_
  try simp only [Act.put, List.getElem_toArray, List.getElem_cons_zero, List.getElem_cons_succ, List.setIfInBounds_toArray, List.set_cons_zero, List.set_cons_succ]
  refine wpAnyH_ready (rs := [3]) (by kernel_rfl) (by simp) ?_
  refine AllReadyH.cons rfl (fun K hK => ?_) AllReadyH.nil
  go_simp
  refine (HN.out _ _).mono ?_
  rintro e w2 ⟨A2', c2', rfl, h2, b2⟩
  have H2 := Lib.hid h2
  have HB2 := Lib.hid (to_ HD0.out b2)
  clear h2 b2
  try go_wp2_with fail
  refine hK.out _ _ (blk3 (HX.out _ HB2.out)) ?_
  clear hK K hHeld
  intro hHeld
  try simp only [Act.put, List.getElem_toArray, List.getElem_cons_zero, List.getElem_cons_succ, List.setIfInBounds_toArray, List.set_cons_zero, List.set_cons_succ]
  refine wpAnyH_ready (rs := [6]) (by kernel_rfl) (by simp) ?_
  refine AllReadyH.cons rfl (fun K hK => ?_) AllReadyH.nil
  go_simp
  refine (HLW.out w2 (to_ HB0.out HB2.out)).mono ?_
  rintro e w3 ⟨A3, c3, rfl, h3, b3⟩
  have H3 := Lib.hid h3
  have H23 := Lib.hid ((H2.out.below b3).more b3.size)
  have HB3 := Lib.hid (to_ HB2.out b3)
  clear h3 b3
  try go_wp2_with fail
  refine hK.out _ _ (blk3 (HX.out _ HB3.out)) ?_
  clear hK K hHeld
  intro hHeld
  try simp only [Act.put, List.getElem_toArray, List.getElem_cons_zero, List.getElem_cons_succ, List.setIfInBounds_toArray, List.set_cons_zero, List.set_cons_succ]
  refine wpAnyH_ready (rs := [9]) (by kernel_rfl) (by simp) ?_
  refine AllReadyH.cons rfl (fun K hK => ?_) AllReadyH.nil
  go_simp
  refine (HLR.out w3 (to_ HB0.out HB3.out)).mono ?_
  rintro e w4 ⟨A4, c4, rfl, h4, b4⟩
  have H4 := Lib.hid h4
  have H24 := Lib.hid ((H23.out.below b4).more b4.size)
  have H34 := Lib.hid ((H3.out.below b4).more b4.size)
  have HB4 := Lib.hid (to_ HB3.out b4)
  clear h4 b4
  try go_wp2_with fail
  refine hK.out _ _ (blk3 (HX.out _ HB4.out)) ?_
  clear hK K hHeld
  intro hHeld
  try simp only [Act.put, List.getElem_toArray, List.getElem_cons_zero, List.getElem_cons_succ, List.setIfInBounds_toArray, List.set_cons_zero, List.set_cons_succ]
  have HAL := Lib.hid (fun o => alloc_ w4 o)
  refine wpAnyH_ready (rs := [10]) (by kernel_rfl) (by simp) ?_
  refine AllReadyH.cons rfl (fun K hK => ?_) AllReadyH.nil
  go_simp
  refine hK.out _ _ (blk3 (HX.out _ (to_ HB4.out (HAL.out _)))) ?_
  clear hK K hHeld
  intro hHeld
  try simp only [Act.put, List.getElem_toArray, List.getElem_cons_zero, List.getElem_cons_succ, List.setIfInBounds_toArray, List.set_cons_zero, List.set_cons_succ]
  refine wpAnyH_ready (rs := [11]) (by kernel_rfl) (by simp) ?_
  refine AllReadyH.cons rfl (fun K hK => ?_) AllReadyH.nil
  go_simp
  refine ((cat_any w4 [(A2, c2, bs), (A2', c2', putB kd 1), (A3, c3, putB (nW : Int) 1 ++ wsB ws), (A4, c4, putB (nR : Int) 1 ++ rlsB rs)] 4 _ _ rfl (by simp [pvb, HM.out]) (fun p hp => by
      simp only [List.mem_cons, List.not_mem_nil, or_false] at hp
      rcases hp with rfl | rfl | rfl | rfl
      · have := HSB.out w4 (to_ HB0.out HB4.out)
        unfold pvb; rw [HM.out]; exact this
      · exact H24.out
      · exact H34.out
      · exact H4.out) (by have := HLL.out; simp only [List.flatMap_cons, List.flatMap_nil, List.length_append, List.append_nil] at this ⊢; omega) (by decide)).mono fun _ _ hh => ban_n (by rw [HFV.out]; simp [List.append_assoc]) HN9.out hh).mono ?_
  rintro e w5 ⟨A5, c5, rfl, h5, b5⟩
  have HB5 := Lib.hid (to_ (to_ HB4.out (HAL.out _)) b5)
  have H5 := Lib.hid h5
  clear b5 h5
  try go_wp2_with fail
  refine hK.out _ _ (blk3 (HX.out _ HB5.out)) ?_
  clear hK K hHeld
  intro hHeld
  try simp only [Act.put, List.getElem_toArray, List.getElem_cons_zero, List.getElem_cons_succ, List.setIfInBounds_toArray, List.set_cons_zero, List.set_cons_succ]
  refine wpAnyH_take (i := 12) rfl (by kernel_rfl) (by kernel_rfl) (by kernel_rfl) (fun _ _ _ h => h) (Or.inl ⟨by rfl, by intro W hSW; (try dsimp only at hSW); go_simp; try (with_reducible rfl)⟩) hHeld ?_
  try simp only [Act.put, List.getElem_toArray, List.getElem_cons_zero, List.getElem_cons_succ, List.setIfInBounds_toArray, List.set_cons_zero, List.set_cons_succ]
  refine wpAnyH_done (by kernel_rfl) ?_ _
  refine NoPanic.normal ?_
  go_wp2_with fail
  go_ret
  exact n_ban HN9.out ⟨A5, c5, rfl, H5.out, to_ HB0.out HB5.out⟩
end Go.Proofs.YtbknmapkdjmcjaaGreatDoor.By
