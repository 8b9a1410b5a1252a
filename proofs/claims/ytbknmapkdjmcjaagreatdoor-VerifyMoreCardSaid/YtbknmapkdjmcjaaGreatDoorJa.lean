/-
  WALKS of layer 16: lines and instructions in memory; functions as bytes: Put.
-/
import Derived.Test.YtbknmapkdjmcjaaGreatDoorEa
import Derived.Test.YtbknmapkdjmcjaaGreatDoorIf
namespace Go.Proofs.YtbknmapkdjmcjaaGreatDoor.By
open Go.RowKit
open Mem Gm Rf
set_option linter.unusedSimpArgs false
set_option linter.unusedVariables false

/-- A line: At, Line. An instruction: Op, A, B, C, N. -/
abbrev Ln := Int × Int
abbrev In5 := Int × Int × Int × Int × Int
def encLn (x : Ln) : List Value := [.int .i64 x.1, .int .i64 x.2]
def encIn (x : In5) : List Value := [.int .i64 x.1, .int .i64 x.2.1, .int .i64 x.2.2.1, .int .i64 x.2.2.2.1, .int .i64 x.2.2.2.2]
def lnAt (l : List Ln) (i : Nat) : Ln := l.getD i (0, 0)
def inAt (l : List In5) (i : Nat) : In5 := l.getD i (0, 0, 0, 0, 0)
theorem lnAt_some {l : List Ln} {i : Nat} (h : i < l.length) : l[i]? = some (lnAt l i) := by unfold lnAt; rw [List.getD_eq_getElem?_getD, List.getElem?_eq_getElem h]; rfl
theorem inAt_some {l : List In5} {i : Nat} (h : i < l.length) : l[i]? = some (inAt l i) := by unfold inAt; rw [List.getD_eq_getElem?_getD, List.getElem?_eq_getElem h]; rfl
def LnL (w : World) (A : Option Addr) (n c : Nat) (l : List Ln) : Prop := Wd 2 encLn w w.heap.size A n c l
def InL (w : World) (A : Option Addr) (n c : Nat) (l : List In5) : Prop := Wd 5 encIn w w.heap.size A n c l
theorem LnL.at_ {w : World} {A : Option Addr} {n c : Nat} {l : List Ln} (h : LnL w A n c l) {i : Nat} (hi : i < n) :
    ∃ ad, A = some ad ∧ ad.block < w.heap.size ∧ w.cell? (ad.add (i * 2)) = some (.int .i64 (lnAt l i).1) ∧ w.cell? ⟨(ad.add (i * 2)).block, (ad.add (i * 2)).off + 1, none⟩ = some (.int .i64 (lnAt l i).2) := by
  obtain ⟨ad, e, hb, hc⟩ := h.2.2.2.2 i _ (lnAt_some (by rw [h.1]; exact hi))
  have h0 := hc 0 _ rfl
  have h1 := hc 1 _ rfl
  rw [add_field _ 1 (by omega)] at h1
  exact ⟨ad, e, hb, h0, h1⟩
theorem InL.at_ {w : World} {A : Option Addr} {n c : Nat} {l : List In5} (h : InL w A n c l) {i : Nat} (hi : i < n) :
    ∃ ad, A = some ad ∧ ad.block < w.heap.size ∧ w.cell? (ad.add (i * 5)) = some (.int .i64 (inAt l i).1) ∧ w.cell? ⟨(ad.add (i * 5)).block, (ad.add (i * 5)).off + 1, none⟩ = some (.int .i64 (inAt l i).2.1) ∧ w.cell? ⟨(ad.add (i * 5)).block, (ad.add (i * 5)).off + 2, none⟩ = some (.int .i64 (inAt l i).2.2.1) ∧ w.cell? ⟨(ad.add (i * 5)).block, (ad.add (i * 5)).off + 3, none⟩ = some (.int .i64 (inAt l i).2.2.2.1) ∧ w.cell? ⟨(ad.add (i * 5)).block, (ad.add (i * 5)).off + 4, none⟩ = some (.int .i64 (inAt l i).2.2.2.2) := by
  obtain ⟨ad, e, hb, hc⟩ := h.2.2.2.2 i _ (inAt_some (by rw [h.1]; exact hi))
  have h0 := hc 0 _ rfl
  have h1 := hc 1 _ rfl
  have h2 := hc 2 _ rfl
  have h3 := hc 3 _ rfl
  have h4 := hc 4 _ rfl
  rw [add_field _ 1 (by omega)] at h1
  rw [add_field _ 2 (by omega)] at h2
  rw [add_field _ 3 (by omega)] at h3
  rw [add_field _ 4 (by omega)] at h4
  exact ⟨ad, e, hb, h0, h1, h2, h3, h4⟩
theorem LnL.on {w w' : World} {A : Option Addr} {n c : Nat} {l : List Ln} (h : LnL w A n c l) (hb : Below w.heap.size w w') : LnL w' A n c l := (Wd.below h hb).more hb.size
theorem InL.on {w w' : World} {A : Option Addr} {n c : Nat} {l : List In5} (h : InL w A n c l) (hb : Below w.heap.size w w') : InL w' A n c l := (Wd.below h hb).more hb.size

def ksB (l : List Int) : List UInt8 := l.flatMap fun n => putB n 1
def lnB (x : Ln) : List UInt8 := putB x.1 1 ++ putB x.2 2
def lnsB (l : List Ln) : List UInt8 := l.flatMap lnB
def inB (x : In5) : List UInt8 := insB x.1 x.2.1 x.2.2.1 x.2.2.2.1 x.2.2.2.2
def insLB (l : List In5) : List UInt8 := l.flatMap inB
theorem lnB_len (x : Ln) : (lnB x).length = 3 := by unfold lnB; simp [putB1, putB2]
theorem putB4 (n : Int) : (putB n 4).length = 4 := by unfold putB; rw [if_pos (by omega)]; exact be_length ..
theorem inB_len (x : In5) : (inB x).length = 8 := by
  unfold inB insB
  simp only [pfxB, List.length_append, putB1, show widV 0 = 1 from rfl, show widV 1 = 1 from rfl, show widV 2 = 1 from rfl, show widV 3 = 4 from rfl, putB4]
theorem ksB_len (l : List Int) : (ksB l).length = l.length := by
  unfold ksB
  induction l with
  | nil => rfl
  | cons a l ih => rw [List.flatMap_cons, List.length_append, ih, putB1, List.length_cons]; omega
theorem lnsB_len (l : List Ln) : (lnsB l).length = 3 * l.length := by
  unfold lnsB
  induction l with
  | nil => rfl
  | cons a l ih => rw [List.flatMap_cons, List.length_append, ih, lnB_len, List.length_cons]; omega
theorem insLB_len (l : List In5) : (insLB l).length = 8 * l.length := by
  unfold insLB
  induction l with
  | nil => rfl
  | cons a l ih => rw [List.flatMap_cons, List.length_append, ih, inB_len, List.length_cons]; omega
theorem ksB_next {l : List Int} {k : Nat} (h : k < l.length) : ksB (l.take (k + 1)) = ksB (l.take k) ++ putB (el l k) 1 := by
  unfold ksB
  rw [List.take_succ_eq_append_getElem h, List.flatMap_append, el_at h]
  simp
theorem lnsB_next {l : List Ln} {k : Nat} (h : k < l.length) : lnsB (l.take (k + 1)) = lnsB (l.take k) ++ lnB (lnAt l k) := by
  have e := lnAt_some h
  rw [List.getElem?_eq_getElem h] at e
  injection e with e
  unfold lnsB
  rw [List.take_succ_eq_append_getElem h, List.flatMap_append, e]
  simp
theorem insLB_next {l : List In5} {k : Nat} (h : k < l.length) : insLB (l.take (k + 1)) = insLB (l.take k) ++ inB (inAt l k) := by
  have e := inAt_some h
  rw [List.getElem?_eq_getElem h] at e
  injection e with e
  unfold insLB
  rw [List.take_succ_eq_append_getElem h, List.flatMap_append, e]
  simp

theorem blk2 {w : World} {g : Nat} {t : TypeId} {x0 x1 : Value} (h : Blk w g t #[x0, x1]) : w.cell? ⟨g, 0, none⟩ = some x0 ∧ w.cell? ⟨g, 1, none⟩ = some x1 := ⟨h.cell 0, h.cell 1⟩
theorem fnum_any (n : Int) (w : World) : Calls Tryz.prog 69 #[.int .i64 n] w (Owns w (u8s (putB n 1))) := by
  have HP := Lib.hid (fun W (n k : Int) => put_any (.slice none 0 0) [] n k W .nil (by simp) (by simp))
  go_enter Tryz.func69, Tryz.ntmps69
  go_wp2_with (go_at_call 150; refine (HP.out _ _ _).mono ?_; rintro e w1 ⟨v1, rfl, ho1, hb1⟩; rw [List.nil_append] at ho1; have HO1 := Lib.hid ho1; have HB1 := Lib.hid hb1; clear ho1 hb1)
  go_ret
  exact ⟨_, rfl, HO1.out, HB1.out⟩
theorem flong_any (n : Int) (w : World) : Calls Tryz.prog 71 #[.int .i64 n] w (Owns w (u8s (putB n 2))) := by
  have HP := Lib.hid (fun W (n k : Int) => put_any (.slice none 0 0) [] n k W .nil (by simp) (by simp))
  go_enter Tryz.func71, Tryz.ntmps71
  go_wp2_with (go_at_call 150; refine (HP.out _ _ _).mono ?_; rintro e w1 ⟨v1, rfl, ho1, hb1⟩; rw [List.nil_append] at ho1; have HO1 := Lib.hid ho1; have HB1 := Lib.hid hb1; clear ho1 hb1)
  go_ret
  exact ⟨_, rfl, HO1.out, HB1.out⟩
theorem fflag_any (b : Bool) (w : World) : Calls Tryz.prog 72 #[.bool b] w (Owns w (u8s (putB (fl b) 1))) := by
  have HN := Lib.hid (fun n W => fnum_any n W)
  cases b
  all_goals
    go_enter Tryz.func72, Tryz.ntmps72
    go_wp2_with (go_at_call 69; refine (HN.out _ _).mono ?_; rintro e w1 ⟨v1, rfl, ho1, hb1⟩; have HO1 := Lib.hid ho1; have HB1 := Lib.hid hb1; clear ho1 hb1)
    all_goals go_ret
    all_goals exact ⟨_, rfl, HO1.out, HB1.out⟩
theorem ofInstr_any (x : In5) (w : World) : Calls Tryz.prog 76 #[.agg #[.int .i64 x.1, .int .i64 x.2.1, .int .i64 x.2.2.1, .int .i64 x.2.2.2.1, .int .i64 x.2.2.2.2]] w (BAn (inB x) w) := by
  obtain ⟨o, a, b, c, n⟩ := x
  have HP := Lib.hid (fun W => iput_any (.slice none 0 0) [] o a b c n W .nil (by simp))
  obtain ⟨W1, hW1⟩ : ∃ W1, w.alloc (.cells #[.int .i64 o, .int .i64 a, .int .i64 b, .int .i64 c, .int .i64 n] 94) = W1 := ⟨_, rfl⟩
  have HB0 := Lib.hid (show Below w.heap.size w W1 by rw [← hW1]; exact alloc_ _ _)
  have hx : Blk W1 w.heap.size 94 #[.int .i64 o, .int .i64 a, .int .i64 b, .int .i64 c, .int .i64 n] := by rw [← hW1]; exact Blk.new w _ _
  have c0 := hx.cell 0
  have c1 := hx.cell 1
  have c2 := hx.cell 2
  have c3 := hx.cell 3
  have c4 := hx.cell 4
  clear hx
  go_enter Tryz.func76, Tryz.ntmps76
  go_wp2_with (go_at_call 151; refine (HP.out _).mono ?_; rintro e w1 ⟨v1, rfl, ho1, hb1⟩; rw [List.nil_append] at ho1; have HO1 := Lib.hid ho1; have HB1 := Lib.hid hb1; clear ho1 hb1)
  go_ret
  obtain ⟨A, c', e, h, b'⟩ := ban_of (w := W1) (bs := insB o a b c n) ⟨_, rfl, HO1.out, HB1.out⟩
  exact ⟨A, c', e, h, to_ HB0.out b'⟩
set_option maxRecDepth 100000 in
set_option maxHeartbeats 4000000 in
theorem ofLine_any (x : Ln) (w : World) : Calls Tryz.prog 74 #[.agg #[.int .i64 x.1, .int .i64 x.2]] w (BAn (lnB x) w) := by
  obtain ⟨x0, x1⟩ := x
  obtain ⟨W1, hW1⟩ : ∃ W1, w.alloc (.cells #[.int .i64 x0, .int .i64 x1] 85) = W1 := ⟨_, rfl⟩
  have hsz1 : w.heap.size < W1.heap.size := by rw [← hW1]; simp
  have HB0 := Lib.hid (show Below w.heap.size w W1 by rw [← hW1]; exact alloc_ _ _)
  have HX := Lib.hid (show ∀ W, Below W1.heap.size W1 W → Blk W w.heap.size 85 #[.int .i64 x0, .int .i64 x1] from fun W hb => (hb.block _ hsz1).trans (by rw [← hW1]; exact Blk.new w _ _))
  have HN := Lib.hid (fun n W => (fnum_any n W).mono fun _ _ hh => ban_of hh)
  have HLO := Lib.hid (fun n W => (flong_any n W).mono fun _ _ hh => ban_of hh)
  have HFL := Lib.hid (fun b W => (fflag_any b W).mono fun _ _ hh => ban_of hh)
  have HFV := Lib.hid (show lnB (x0, x1) = putB x0 1 ++ putB x1 2 from rfl)
  have HLN := Lib.hid (fun n => putB1 n)
  have HLN2 := Lib.hid (fun n => putB2 n)
  have hHeld := blk2 (HX.out W1.drew (drew_below W1))
  have HD0 := Lib.hid (drew_below W1)
  obtain ⟨N, hN⟩ : ∃ N, (lnB (x0, x1)).length = N := ⟨_, rfl⟩
  have HN9 := Lib.hid hN
  clear hN
  go_enter Tryz.func74, Tryz.ntmps74
  go_wp2_with fail
  clear hW1
  refine wp_region_noPanic ?_
  refine wp_region_held_drew (S := fun W' => W'.cell? ⟨w.heap.size, 0, none⟩ = some (.int .i64 x0) ∧ W'.cell? ⟨w.heap.size, 1, none⟩ = some (.int .i64 x1)) (by kernel_rfl) (hHeld) (fun hHeld => ?_)
  refine wpAnyH_take (i := 0) rfl (by kernel_rfl) (by kernel_rfl) (by kernel_rfl) (fun _ _ _ h => h) (Or.inl ⟨by rfl, by intro W hSW; (try dsimp only at hSW); go_simp; try (with_reducible rfl)⟩) hHeld ?_
  try simp only [Act.put, List.getElem_toArray, List.getElem_cons_zero, List.getElem_cons_succ, List.setIfInBounds_toArray, List.set_cons_zero, List.set_cons_succ]
  refine wpAnyH_take (i := 1) rfl (by kernel_rfl) (by kernel_rfl) (by kernel_rfl) (fun _ _ _ h => h) (Or.inl ⟨by rfl, by intro W hSW; (try dsimp only at hSW); go_simp; try (with_reducible rfl)⟩) hHeld ?_
  try simp only [Act.put, List.getElem_toArray, List.getElem_cons_zero, List.getElem_cons_succ, List.setIfInBounds_toArray, List.set_cons_zero, List.set_cons_succ]
  refine wpAnyH_take (i := 3) rfl (by kernel_rfl) (by kernel_rfl) (by kernel_rfl) (fun _ _ _ h => h) (Or.inl ⟨by rfl, by intro W hSW; (try dsimp only at hSW); go_simp; try (with_reducible rfl)⟩) hHeld ?_
  try simp only [Act.put, List.getElem_toArray, List.getElem_cons_zero, List.getElem_cons_succ, List.setIfInBounds_toArray, List.set_cons_zero, List.set_cons_succ]
  refine wpAnyH_take (i := 4) rfl (by kernel_rfl) (by kernel_rfl) (by kernel_rfl) (fun _ _ _ h => h) (Or.inl ⟨by rfl, by intro W hSW; (try dsimp only at hSW); go_simp; try (with_reducible rfl)⟩) hHeld ?_
  try simp only [Act.put, List.getElem_toArray, List.getElem_cons_zero, List.getElem_cons_succ, List.setIfInBounds_toArray, List.set_cons_zero, List.set_cons_succ]
  refine wpAnyH_ready (rs := [2]) (by kernel_rfl) (by simp) ?_
  refine AllReadyH.cons rfl (fun K hK => ?_) AllReadyH.nil
  go_simp
  refine (HN.out _ _).mono ?_
  rintro e w2 ⟨A2, c2, rfl, h2, b2⟩
  have H2 := Lib.hid h2
  have HB2 := Lib.hid (to_ HD0.out b2)
  clear h2 b2
  try go_wp2_with fail
  refine hK.out _ _ (blk2 (HX.out _ HB2.out)) ?_
  clear hK K hHeld
  intro hHeld
  try simp only [Act.put, List.getElem_toArray, List.getElem_cons_zero, List.getElem_cons_succ, List.setIfInBounds_toArray, List.set_cons_zero, List.set_cons_succ]
  refine wpAnyH_ready (rs := [5]) (by kernel_rfl) (by simp) ?_
  refine AllReadyH.cons rfl (fun K hK => ?_) AllReadyH.nil
  go_simp
  refine (HLO.out _ _).mono ?_
  rintro e w3 ⟨A3, c3, rfl, h3, b3⟩
  have H3 := Lib.hid h3
  have H23 := Lib.hid ((H2.out.below b3).more b3.size)
  have HB3 := Lib.hid (to_ HB2.out b3)
  clear h3 b3
  try go_wp2_with fail
  refine hK.out _ _ (blk2 (HX.out _ HB3.out)) ?_
  clear hK K hHeld
  intro hHeld
  try simp only [Act.put, List.getElem_toArray, List.getElem_cons_zero, List.getElem_cons_succ, List.setIfInBounds_toArray, List.set_cons_zero, List.set_cons_succ]
  have HAL := Lib.hid (fun o => alloc_ w3 o)
  refine wpAnyH_ready (rs := [6]) (by kernel_rfl) (by simp) ?_
  refine AllReadyH.cons rfl (fun K hK => ?_) AllReadyH.nil
  go_simp
  refine hK.out _ _ (blk2 (HX.out _ (to_ HB3.out (HAL.out _)))) ?_
  clear hK K hHeld
  intro hHeld
  try simp only [Act.put, List.getElem_toArray, List.getElem_cons_zero, List.getElem_cons_succ, List.setIfInBounds_toArray, List.set_cons_zero, List.set_cons_succ]
  refine wpAnyH_ready (rs := [7]) (by kernel_rfl) (by simp) ?_
  refine AllReadyH.cons rfl (fun K hK => ?_) AllReadyH.nil
  go_simp
  refine ((cat_any w3 [(A2, c2, putB x0 1), (A3, c3, putB x1 2)] 2 _ _ rfl rfl (fun p hp => by
      simp only [List.mem_cons, List.not_mem_nil, or_false] at hp
      rcases hp with rfl | rfl
      · exact H23.out
      · exact H3.out) (by simp only [List.flatMap_cons, List.flatMap_nil, List.length_append, List.append_nil, HLN.out, HLN2.out]; omega) (by decide)).mono fun _ _ hh => ban_n (by rw [HFV.out]; simp) HN9.out hh).mono ?_
  rintro e w9 ⟨A9, c9, rfl, h9, b9⟩
  have HB9 := Lib.hid (to_ (to_ HB3.out (HAL.out _)) b9)
  have H9 := Lib.hid h9
  clear b9 h9
  try go_wp2_with fail
  refine hK.out _ _ (blk2 (HX.out _ HB9.out)) ?_
  clear hK K hHeld
  intro hHeld
  try simp only [Act.put, List.getElem_toArray, List.getElem_cons_zero, List.getElem_cons_succ, List.setIfInBounds_toArray, List.set_cons_zero, List.set_cons_succ]
  refine wpAnyH_take (i := 8) rfl (by kernel_rfl) (by kernel_rfl) (by kernel_rfl) (fun _ _ _ h => h) (Or.inl ⟨by rfl, by intro W hSW; (try dsimp only at hSW); go_simp; try (with_reducible rfl)⟩) hHeld ?_
  try simp only [Act.put, List.getElem_toArray, List.getElem_cons_zero, List.getElem_cons_succ, List.setIfInBounds_toArray, List.set_cons_zero, List.set_cons_succ]
  refine wpAnyH_done (by kernel_rfl) ?_ _
  refine NoPanic.normal ?_
  go_wp2_with fail
  go_ret
  exact n_ban HN9.out ⟨A9, c9, rfl, H9.out, to_ HB0.out HB9.out⟩

set_option maxRecDepth 100000 in
set_option maxHeartbeats 4000000 in
theorem fofRef_any (x : Rl) (w : World) : Calls Tryz.prog 78 #[.agg #[.int .i64 x.1, .int .i64 x.2.1, .bool x.2.2]] w (BAn (rlB x) w) := by
  obtain ⟨x0, x1, x2⟩ := x
  obtain ⟨W1, hW1⟩ : ∃ W1, w.alloc (.cells #[.int .i64 x0, .int .i64 x1, .bool x2] 82) = W1 := ⟨_, rfl⟩
  have hsz1 : w.heap.size < W1.heap.size := by rw [← hW1]; simp
  have HB0 := Lib.hid (show Below w.heap.size w W1 by rw [← hW1]; exact alloc_ _ _)
  have HX := Lib.hid (show ∀ W, Below W1.heap.size W1 W → Blk W w.heap.size 82 #[.int .i64 x0, .int .i64 x1, .bool x2] from fun W hb => (hb.block _ hsz1).trans (by rw [← hW1]; exact Blk.new w _ _))
  have HN := Lib.hid (fun n W => (fnum_any n W).mono fun _ _ hh => ban_of hh)
  have HLO := Lib.hid (fun n W => (flong_any n W).mono fun _ _ hh => ban_of hh)
  have HFL := Lib.hid (fun b W => (fflag_any b W).mono fun _ _ hh => ban_of hh)
  have HFV := Lib.hid (show rlB (x0, x1, x2) = putB x0 1 ++ putB x1 1 ++ putB (fl x2) 1 from rfl)
  have HLN := Lib.hid (fun n => putB1 n)
  have HLN2 := Lib.hid (fun n => putB2 n)
  have hHeld := blk3 (HX.out W1.drew (drew_below W1))
  have HD0 := Lib.hid (drew_below W1)
  obtain ⟨N, hN⟩ : ∃ N, (rlB (x0, x1, x2)).length = N := ⟨_, rfl⟩
  have HN9 := Lib.hid hN
  clear hN
  go_enter Tryz.func78, Tryz.ntmps78
  go_wp2_with fail
  clear hW1
  refine wp_region_noPanic ?_
  refine wp_region_held_drew (S := fun W' => W'.cell? ⟨w.heap.size, 0, none⟩ = some (.int .i64 x0) ∧ W'.cell? ⟨w.heap.size, 1, none⟩ = some (.int .i64 x1) ∧ W'.cell? ⟨w.heap.size, 2, none⟩ = some (.bool x2)) (by kernel_rfl) (hHeld) (fun hHeld => ?_)
  refine wpAnyH_take (i := 0) rfl (by kernel_rfl) (by kernel_rfl) (by kernel_rfl) (fun _ _ _ h => h) (Or.inl ⟨by rfl, by intro W hSW; (try dsimp only at hSW); go_simp; try (with_reducible rfl)⟩) hHeld ?_
  try simp only [Act.put, List.getElem_toArray, List.getElem_cons_zero, List.getElem_cons_succ, List.setIfInBounds_toArray, List.set_cons_zero, List.set_cons_succ]
  refine wpAnyH_take (i := 1) rfl (by kernel_rfl) (by kernel_rfl) (by kernel_rfl) (fun _ _ _ h => h) (Or.inl ⟨by rfl, by intro W hSW; (try dsimp only at hSW); go_simp; try (with_reducible rfl)⟩) hHeld ?_
  try simp only [Act.put, List.getElem_toArray, List.getElem_cons_zero, List.getElem_cons_succ, List.setIfInBounds_toArray, List.set_cons_zero, List.set_cons_succ]
  refine wpAnyH_take (i := 3) rfl (by kernel_rfl) (by kernel_rfl) (by kernel_rfl) (fun _ _ _ h => h) (Or.inl ⟨by rfl, by intro W hSW; (try dsimp only at hSW); go_simp; try (with_reducible rfl)⟩) hHeld ?_
  try simp only [Act.put, List.getElem_toArray, List.getElem_cons_zero, List.getElem_cons_succ, List.setIfInBounds_toArray, List.set_cons_zero, List.set_cons_succ]
  refine wpAnyH_take (i := 4) rfl (by kernel_rfl) (by kernel_rfl) (by kernel_rfl) (fun _ _ _ h => h) (Or.inl ⟨by rfl, by intro W hSW; (try dsimp only at hSW); go_simp; try (with_reducible rfl)⟩) hHeld ?_
  try simp only [Act.put, List.getElem_toArray, List.getElem_cons_zero, List.getElem_cons_succ, List.setIfInBounds_toArray, List.set_cons_zero, List.set_cons_succ]
  refine wpAnyH_take (i := 6) rfl (by kernel_rfl) (by kernel_rfl) (by kernel_rfl) (fun _ _ _ h => h) (Or.inl ⟨by rfl, by intro W hSW; (try dsimp only at hSW); go_simp; try (with_reducible rfl)⟩) hHeld ?_
  try simp only [Act.put, List.getElem_toArray, List.getElem_cons_zero, List.getElem_cons_succ, List.setIfInBounds_toArray, List.set_cons_zero, List.set_cons_succ]
  refine wpAnyH_take (i := 7) rfl (by kernel_rfl) (by kernel_rfl) (by kernel_rfl) (fun _ _ _ h => h) (Or.inl ⟨by rfl, by intro W hSW; (try dsimp only at hSW); go_simp; try (with_reducible rfl)⟩) hHeld ?_
  try simp only [Act.put, List.getElem_toArray, List.getElem_cons_zero, List.getElem_cons_succ, List.setIfInBounds_toArray, List.set_cons_zero, List.set_cons_succ]
  refine wpAnyH_ready (rs := [2]) (by kernel_rfl) (by simp) ?_
  refine AllReadyH.cons rfl (fun K hK => ?_) AllReadyH.nil
  go_simp
  refine (HN.out _ _).mono ?_
  rintro e w2 ⟨A2, c2, rfl, h2, b2⟩
  have H2 := Lib.hid h2
  have HB2 := Lib.hid (to_ HD0.out b2)
  clear h2 b2
  try go_wp2_with fail
  refine hK.out _ _ (blk3 (HX.out _ HB2.out)) ?_
  clear hK K hHeld
  intro hHeld
  try simp only [Act.put, List.getElem_toArray, List.getElem_cons_zero, List.getElem_cons_succ, List.setIfInBounds_toArray, List.set_cons_zero, List.set_cons_succ]
  refine wpAnyH_ready (rs := [5]) (by kernel_rfl) (by simp) ?_
  refine AllReadyH.cons rfl (fun K hK => ?_) AllReadyH.nil
  go_simp
  refine (HN.out _ _).mono ?_
  rintro e w3 ⟨A3, c3, rfl, h3, b3⟩
  have H3 := Lib.hid h3
  have H23 := Lib.hid ((H2.out.below b3).more b3.size)
  have HB3 := Lib.hid (to_ HB2.out b3)
  clear h3 b3
  try go_wp2_with fail
  refine hK.out _ _ (blk3 (HX.out _ HB3.out)) ?_
  clear hK K hHeld
  intro hHeld
  try simp only [Act.put, List.getElem_toArray, List.getElem_cons_zero, List.getElem_cons_succ, List.setIfInBounds_toArray, List.set_cons_zero, List.set_cons_succ]
  refine wpAnyH_ready (rs := [8]) (by kernel_rfl) (by simp) ?_
  refine AllReadyH.cons rfl (fun K hK => ?_) AllReadyH.nil
  go_simp
  refine (HFL.out _ _).mono ?_
  rintro e w4 ⟨A4, c4, rfl, h4, b4⟩
  have H4 := Lib.hid h4
  have H24 := Lib.hid ((H23.out.below b4).more b4.size)
  have H34 := Lib.hid ((H3.out.below b4).more b4.size)
  have HB4 := Lib.hid (to_ HB3.out b4)
  clear h4 b4
  try go_wp2_with fail
  refine hK.out _ _ (blk3 (HX.out _ HB4.out)) ?_
  clear hK K hHeld
  intro hHeld
  try simp only [Act.put, List.getElem_toArray, List.getElem_cons_zero, List.getElem_cons_succ, List.setIfInBounds_toArray, List.set_cons_zero, List.set_cons_succ]
  have HAL := Lib.hid (fun o => alloc_ w4 o)
  refine wpAnyH_ready (rs := [9]) (by kernel_rfl) (by simp) ?_
  refine AllReadyH.cons rfl (fun K hK => ?_) AllReadyH.nil
  go_simp
  refine hK.out _ _ (blk3 (HX.out _ (to_ HB4.out (HAL.out _)))) ?_
  clear hK K hHeld
  intro hHeld
  try simp only [Act.put, List.getElem_toArray, List.getElem_cons_zero, List.getElem_cons_succ, List.setIfInBounds_toArray, List.set_cons_zero, List.set_cons_succ]
  refine wpAnyH_ready (rs := [10]) (by kernel_rfl) (by simp) ?_
  refine AllReadyH.cons rfl (fun K hK => ?_) AllReadyH.nil
  go_simp
  refine ((cat_any w4 [(A2, c2, putB x0 1), (A3, c3, putB x1 1), (A4, c4, putB (fl x2) 1)] 3 _ _ rfl rfl (fun p hp => by
      simp only [List.mem_cons, List.not_mem_nil, or_false] at hp
      rcases hp with rfl | rfl | rfl
      · exact H24.out
      · exact H34.out
      · exact H4.out) (by simp only [List.flatMap_cons, List.flatMap_nil, List.length_append, List.append_nil, HLN.out, HLN2.out]; omega) (by decide)).mono fun _ _ hh => ban_n (by rw [HFV.out]; simp) HN9.out hh).mono ?_
  rintro e w9 ⟨A9, c9, rfl, h9, b9⟩
  have HB9 := Lib.hid (to_ (to_ HB4.out (HAL.out _)) b9)
  have H9 := Lib.hid h9
  clear b9 h9
  try go_wp2_with fail
  refine hK.out _ _ (blk3 (HX.out _ HB9.out)) ?_
  clear hK K hHeld
  intro hHeld
  try simp only [Act.put, List.getElem_toArray, List.getElem_cons_zero, List.getElem_cons_succ, List.setIfInBounds_toArray, List.set_cons_zero, List.set_cons_succ]
  refine wpAnyH_take (i := 11) rfl (by kernel_rfl) (by kernel_rfl) (by kernel_rfl) (fun _ _ _ h => h) (Or.inl ⟨by rfl, by intro W hSW; (try dsimp only at hSW); go_simp; try (with_reducible rfl)⟩) hHeld ?_
  try simp only [Act.put, List.getElem_toArray, List.getElem_cons_zero, List.getElem_cons_succ, List.setIfInBounds_toArray, List.set_cons_zero, List.set_cons_succ]
  refine wpAnyH_done (by kernel_rfl) ?_ _
  refine NoPanic.normal ?_
  go_wp2_with fail
  go_ret
  exact n_ban HN9.out ⟨A9, c9, rfl, H9.out, to_ HB0.out HB9.out⟩

set_option maxRecDepth 100000 in
set_option maxHeartbeats 2000000 in
theorem flistK_any (w : World) (A : Option Addr) (n c : Nat) (l : List Int) (h : IW w (.slice A n c) l) (hL : l.length = n) (hn : n ≤ 100000) :
    Calls Tryz.prog 70 #[.slice A n c, .func (.func 69) #[] #[]] w (Owns w (u8s (putB (n : Int) 1 ++ ksB l))) := by
  obtain ⟨i0, hi, hz0, hz1, hz2⟩ := info_parts info5
  have HN := Lib.hid (fun n W => fnum_any n W)
  have HW := Lib.hid (fun x W => fnum_any x W)
  have HR := Lib.hid (fun W (hb : Below w.heap.size w W) i (hi : i < n) => iw_cell (h.on hb) hL hi)
  have HL := Lib.hid hL
  clear h hL
  go_enter Tryz.func70, Tryz.ntmps70
  go_wp2_with (go_at_call 69; refine (HN.out _ _).mono ?_; rintro e w1 ⟨v1, rfl, ho1, hb1⟩; have HO1 := Lib.hid ho1; have HB1 := Lib.hid hb1; clear ho1 hb1)
  go_loopw [5, 13] (fun v i wr => ∃ k : Nat, k ≤ n ∧ i = .int .i64 (k : Int) ∧ wr.ownsRow w.heap.size 5 1 v (u8s (putB (n : Int) 1 ++ ksB (l.take k))).length (u8s (putB (n : Int) 1 ++ ksB (l.take k))) ∧ Below w.heap.size w wr) (fun _ i _ => n - (intOf i).toNat)
  case atStart => exact ⟨0, Nat.zero_le _, rfl, by rw [List.take_zero, show ksB [] = [] from rfl, List.append_nil]; exact HO1.out, HB1.out⟩
  case round =>
    obtain ⟨k, hk, rfl, hown, hbel⟩ := hrel
    have HOW := Lib.hid hown
    have HBE := Lib.hid hbel
    by_cases hlt : k < n
    · have hkI : (k : Int) < (n : Int) := by omega
      obtain ⟨ad, rfl, _, c0⟩ := HR.out wr hbel k hlt
      have HNX := Lib.hid (ksB_next (l := l) (k := k) (by rw [HL.out]; exact hlt))
      have HLEN := Lib.hid (show (u8s (putB (n : Int) 1 ++ ksB (l.take k))).length ≤ 1 + 1 * n by rw [u8s_length, List.length_append, putB1, ksB_len, List.length_take]; omega)
      generalize el l k = x at HNX c0
      have HXL := Lib.hid (show (u8s (putB x 1)).length = 1 by rw [u8s_length, putB1])
      clear hown hbel
      go_wp2_with (first
        | (go_at_call 69; refine (HW.out _ _).mono ?_; rintro e w9 ⟨v9, rfl, ho9, hb9⟩; have HO9 := Lib.hid ho9; have HB9 := Lib.hid hb9; clear ho9 hb9)
        | (at_builtin; go_loud (refine wpList_append_slv _ rfl _ _ 35 rfl w.heap.size 5 i0 (.int .u8 0) 1 Tryz.underlying35 hi hz0 hz1 hz2 rfl _ _ rfl (ownk_keep HOW.out fun g _ hg => HB9.out.block g hg) _ v9 (u8s (putB x 1)) rfl (SlV.of_own HO9.out) (u8s_one _) (by have := HLEN.out; have := HXL.out; unfold maxLen; omega) (by have := HLEN.out; have := HXL.out; omega) (by have := HBE.out.size; have := HB9.out.size; omega) ?_; intro v' w4 h2 h3; have H2 := Lib.hid h2; have H3 := Lib.hid h3; clear h2 h3)))
      go_roundw
      case rel =>
        have hb9 := to_ HBE.out HB9.out
        refine ⟨k + 1, by omega, by go_num, ?_, hb9.grown H3.out hb9.size fun r e => (HOW.out.lt r e).1⟩
        have h9 := H2.out
        rw [← u8s_append, List.append_assoc, ← HNX.out] at h9
        exact h9
      case measure => simp [intOf]; omega
    · obtain rfl : k = n := by omega
      rw [show l.take k = l from List.take_of_length_le (by rw [HL.out]; exact Nat.le_refl _)] at HOW
      clear hown hbel
      go_wp2_with fail
      go_ret
      exact ⟨_, rfl, HOW.out, HBE.out⟩

set_option maxRecDepth 100000 in
set_option maxHeartbeats 2000000 in
theorem flistL_any (w : World) (A : Option Addr) (n c : Nat) (l : List Ln) (h : LnL w A n c l) (hn : n ≤ 100000) :
    Calls Tryz.prog 73 #[.slice A n c, .func (.func 74) #[] #[]] w (Owns w (u8s (putB (n : Int) 1 ++ lnsB l))) := by
  obtain ⟨i0, hi, hz0, hz1, hz2⟩ := info_parts info5
  have HN := Lib.hid (fun n W => fnum_any n W)
  have HW := Lib.hid (fun x W => ofLine_any x W)
  have HR := Lib.hid (fun W (hb : Below w.heap.size w W) i (hi : i < n) => (h.on hb).at_ hi)
  have HL := Lib.hid (show l.length = n from h.1)
  clear h
  go_enter Tryz.func73, Tryz.ntmps73
  go_wp2_with (go_at_call 69; refine (HN.out _ _).mono ?_; rintro e w1 ⟨v1, rfl, ho1, hb1⟩; have HO1 := Lib.hid ho1; have HB1 := Lib.hid hb1; clear ho1 hb1)
  go_loopw [5, 13] (fun v i wr => ∃ k : Nat, k ≤ n ∧ i = .int .i64 (k : Int) ∧ wr.ownsRow w.heap.size 5 1 v (u8s (putB (n : Int) 1 ++ lnsB (l.take k))).length (u8s (putB (n : Int) 1 ++ lnsB (l.take k))) ∧ Below w.heap.size w wr) (fun _ i _ => n - (intOf i).toNat)
  case atStart => exact ⟨0, Nat.zero_le _, rfl, by rw [List.take_zero, show lnsB [] = [] from rfl, List.append_nil]; exact HO1.out, HB1.out⟩
  case round =>
    obtain ⟨k, hk, rfl, hown, hbel⟩ := hrel
    have HOW := Lib.hid hown
    have HBE := Lib.hid hbel
    by_cases hlt : k < n
    · have hkI : (k : Int) < (n : Int) := by omega
      obtain ⟨ad, rfl, _, c0, c1⟩ := HR.out wr hbel k hlt
      have HNX := Lib.hid (lnsB_next (l := l) (k := k) (by rw [HL.out]; exact hlt))
      have HLEN := Lib.hid (show (u8s (putB (n : Int) 1 ++ lnsB (l.take k))).length ≤ 1 + 3 * n by rw [u8s_length, List.length_append, putB1, lnsB_len, List.length_take]; omega)
      generalize lnAt l k = x at HNX c0 c1
      have HXL := Lib.hid (show (u8s (lnB x)).length = 3 by rw [u8s_length, lnB_len])
      have HX := Lib.hid (HW.out x)
      have HAL := Lib.hid (alloc_ wr (.cells #[.int .i64 x.1, .int .i64 x.2] 85))
      clear hown hbel
      go_wp2_with (first
        | (go_at_call 74; refine (HX.out _).mono ?_; rintro e w9 ⟨A9, c9, rfl, ho9, hb9⟩; have HO9 := Lib.hid ho9; have HB9 := Lib.hid hb9; clear ho9 hb9)
        | (at_builtin; go_loud (refine wpList_append_slv _ rfl _ _ 35 rfl w.heap.size 5 i0 (.int .u8 0) 1 Tryz.underlying35 hi hz0 hz1 hz2 rfl _ _ rfl (ownk_keep HOW.out fun g _ hg => (HB9.out.block g (by simp; omega)).trans (Below.heap_alloc _ _ _ hg)) _ (.slice A9 (lnB x).length c9) (u8s (lnB x)) rfl HO9.out (u8s_one _) (by have := HLEN.out; have := HXL.out; unfold maxLen; omega) (by have := HLEN.out; have := HXL.out; omega) (by have := HBE.out.size; have := HB9.out.size; simp at this; omega) ?_; intro v' w4 h2 h3; have H2 := Lib.hid h2; have H3 := Lib.hid h3; clear h2 h3)))
      go_roundw
      case rel =>
        have hb9 := to_ (to_ HBE.out HAL.out) HB9.out
        refine ⟨k + 1, by omega, by go_num, ?_, hb9.grown H3.out hb9.size fun r e => (HOW.out.lt r e).1⟩
        have h9 := H2.out
        rw [← u8s_append, List.append_assoc, ← HNX.out] at h9
        exact h9
      case measure => simp [intOf]; omega
    · obtain rfl : k = n := by omega
      rw [show l.take k = l from List.take_of_length_le (by rw [HL.out]; exact Nat.le_refl _)] at HOW
      clear hown hbel
      go_wp2_with fail
      go_ret
      exact ⟨_, rfl, HOW.out, HBE.out⟩

set_option maxRecDepth 100000 in
set_option maxHeartbeats 2000000 in
theorem flistC_any (w : World) (A : Option Addr) (n c : Nat) (l : List In5) (h : InL w A n c l) (hn : n ≤ 100000) :
    Calls Tryz.prog 75 #[.slice A n c, .func (.func 76) #[] #[]] w (Owns w (u8s (putB (n : Int) 1 ++ insLB l))) := by
  obtain ⟨i0, hi, hz0, hz1, hz2⟩ := info_parts info5
  have HN := Lib.hid (fun n W => fnum_any n W)
  have HW := Lib.hid (fun x W => ofInstr_any x W)
  have HR := Lib.hid (fun W (hb : Below w.heap.size w W) i (hi : i < n) => (h.on hb).at_ hi)
  have HL := Lib.hid (show l.length = n from h.1)
  clear h
  go_enter Tryz.func75, Tryz.ntmps75
  go_wp2_with (go_at_call 69; refine (HN.out _ _).mono ?_; rintro e w1 ⟨v1, rfl, ho1, hb1⟩; have HO1 := Lib.hid ho1; have HB1 := Lib.hid hb1; clear ho1 hb1)
  go_loopw [5, 13] (fun v i wr => ∃ k : Nat, k ≤ n ∧ i = .int .i64 (k : Int) ∧ wr.ownsRow w.heap.size 5 1 v (u8s (putB (n : Int) 1 ++ insLB (l.take k))).length (u8s (putB (n : Int) 1 ++ insLB (l.take k))) ∧ Below w.heap.size w wr) (fun _ i _ => n - (intOf i).toNat)
  case atStart => exact ⟨0, Nat.zero_le _, rfl, by rw [List.take_zero, show insLB [] = [] from rfl, List.append_nil]; exact HO1.out, HB1.out⟩
  case round =>
    obtain ⟨k, hk, rfl, hown, hbel⟩ := hrel
    have HOW := Lib.hid hown
    have HBE := Lib.hid hbel
    by_cases hlt : k < n
    · have hkI : (k : Int) < (n : Int) := by omega
      obtain ⟨ad, rfl, _, c0, c1, c2, c3, c4⟩ := HR.out wr hbel k hlt
      have HNX := Lib.hid (insLB_next (l := l) (k := k) (by rw [HL.out]; exact hlt))
      have HLEN := Lib.hid (show (u8s (putB (n : Int) 1 ++ insLB (l.take k))).length ≤ 1 + 8 * n by rw [u8s_length, List.length_append, putB1, insLB_len, List.length_take]; omega)
      generalize inAt l k = x at HNX c0 c1 c2 c3 c4
      have HXL := Lib.hid (show (u8s (inB x)).length = 8 by rw [u8s_length, inB_len])
      have HX := Lib.hid (HW.out x)
      have HAL := Lib.hid (alloc_ wr (.cells #[.int .i64 x.1, .int .i64 x.2.1, .int .i64 x.2.2.1, .int .i64 x.2.2.2.1, .int .i64 x.2.2.2.2] 94))
      clear hown hbel
      go_wp2_with (first
        | (go_at_call 76; refine (HX.out _).mono ?_; rintro e w9 ⟨A9, c9, rfl, ho9, hb9⟩; have HO9 := Lib.hid ho9; have HB9 := Lib.hid hb9; clear ho9 hb9)
        | (at_builtin; go_loud (refine wpList_append_slv _ rfl _ _ 35 rfl w.heap.size 5 i0 (.int .u8 0) 1 Tryz.underlying35 hi hz0 hz1 hz2 rfl _ _ rfl (ownk_keep HOW.out fun g _ hg => (HB9.out.block g (by simp; omega)).trans (Below.heap_alloc _ _ _ hg)) _ (.slice A9 (inB x).length c9) (u8s (inB x)) rfl HO9.out (u8s_one _) (by have := HLEN.out; have := HXL.out; unfold maxLen; omega) (by have := HLEN.out; have := HXL.out; omega) (by have := HBE.out.size; have := HB9.out.size; simp at this; omega) ?_; intro v' w4 h2 h3; have H2 := Lib.hid h2; have H3 := Lib.hid h3; clear h2 h3)))
      go_roundw
      case rel =>
        have hb9 := to_ (to_ HBE.out HAL.out) HB9.out
        refine ⟨k + 1, by omega, by go_num, ?_, hb9.grown H3.out hb9.size fun r e => (HOW.out.lt r e).1⟩
        have h9 := H2.out
        rw [← u8s_append, List.append_assoc, ← HNX.out] at h9
        exact h9
      case measure => simp [intOf]; omega
    · obtain rfl : k = n := by omega
      rw [show l.take k = l from List.take_of_length_le (by rw [HL.out]; exact Nat.le_refl _)] at HOW
      clear hown hbel
      go_wp2_with fail
      go_ret
      exact ⟨_, rfl, HOW.out, HBE.out⟩

set_option maxRecDepth 100000 in
set_option maxHeartbeats 2000000 in
theorem flistR_any (w : World) (A : Option Addr) (n c : Nat) (l : List Rl) (h : RlL w A n c l) (hn : n ≤ 100000) :
    Calls Tryz.prog 77 #[.slice A n c, .func (.func 78) #[] #[]] w (Owns w (u8s (putB (n : Int) 1 ++ rlsB l))) := by
  obtain ⟨i0, hi, hz0, hz1, hz2⟩ := info_parts info5
  have HN := Lib.hid (fun n W => fnum_any n W)
  have HW := Lib.hid (fun x W => fofRef_any x W)
  have HR := Lib.hid (fun W (hb : Below w.heap.size w W) i (hi : i < n) => (h.on hb).at_ hi)
  have HL := Lib.hid (show l.length = n from h.1)
  clear h
  go_enter Tryz.func77, Tryz.ntmps77
  go_wp2_with (go_at_call 69; refine (HN.out _ _).mono ?_; rintro e w1 ⟨v1, rfl, ho1, hb1⟩; have HO1 := Lib.hid ho1; have HB1 := Lib.hid hb1; clear ho1 hb1)
  go_loopw [5, 13] (fun v i wr => ∃ k : Nat, k ≤ n ∧ i = .int .i64 (k : Int) ∧ wr.ownsRow w.heap.size 5 1 v (u8s (putB (n : Int) 1 ++ rlsB (l.take k))).length (u8s (putB (n : Int) 1 ++ rlsB (l.take k))) ∧ Below w.heap.size w wr) (fun _ i _ => n - (intOf i).toNat)
  case atStart => exact ⟨0, Nat.zero_le _, rfl, by rw [List.take_zero, show rlsB [] = [] from rfl, List.append_nil]; exact HO1.out, HB1.out⟩
  case round =>
    obtain ⟨k, hk, rfl, hown, hbel⟩ := hrel
    have HOW := Lib.hid hown
    have HBE := Lib.hid hbel
    by_cases hlt : k < n
    · have hkI : (k : Int) < (n : Int) := by omega
      obtain ⟨ad, rfl, _, c0, c1, c2⟩ := HR.out wr hbel k hlt
      have HNX := Lib.hid (rlsB_next (l := l) (k := k) (by rw [HL.out]; exact hlt))
      have HLEN := Lib.hid (show (u8s (putB (n : Int) 1 ++ rlsB (l.take k))).length ≤ 1 + 3 * n by rw [u8s_length, List.length_append, putB1, rlsB_len, List.length_take]; omega)
      generalize rlAt l k = x at HNX c0 c1 c2
      have HXL := Lib.hid (show (u8s (rlB x)).length = 3 by rw [u8s_length, rlB_len])
      have HX := Lib.hid (HW.out x)
      have HAL := Lib.hid (alloc_ wr (.cells #[.int .i64 x.1, .int .i64 x.2.1, .bool x.2.2] 82))
      clear hown hbel
      go_wp2_with (first
        | (go_at_call 78; refine (HX.out _).mono ?_; rintro e w9 ⟨A9, c9, rfl, ho9, hb9⟩; have HO9 := Lib.hid ho9; have HB9 := Lib.hid hb9; clear ho9 hb9)
        | (at_builtin; go_loud (refine wpList_append_slv _ rfl _ _ 35 rfl w.heap.size 5 i0 (.int .u8 0) 1 Tryz.underlying35 hi hz0 hz1 hz2 rfl _ _ rfl (ownk_keep HOW.out fun g _ hg => (HB9.out.block g (by simp; omega)).trans (Below.heap_alloc _ _ _ hg)) _ (.slice A9 (rlB x).length c9) (u8s (rlB x)) rfl HO9.out (u8s_one _) (by have := HLEN.out; have := HXL.out; unfold maxLen; omega) (by have := HLEN.out; have := HXL.out; omega) (by have := HBE.out.size; have := HB9.out.size; simp at this; omega) ?_; intro v' w4 h2 h3; have H2 := Lib.hid h2; have H3 := Lib.hid h3; clear h2 h3)))
      go_roundw
      case rel =>
        have hb9 := to_ (to_ HBE.out HAL.out) HB9.out
        refine ⟨k + 1, by omega, by go_num, ?_, hb9.grown H3.out hb9.size fun r e => (HOW.out.lt r e).1⟩
        have h9 := H2.out
        rw [← u8s_append, List.append_assoc, ← HNX.out] at h9
        exact h9
      case measure => simp [intOf]; omega
    · obtain rfl : k = n := by omega
      rw [show l.take k = l from List.take_of_length_le (by rw [HL.out]; exact Nat.le_refl _)] at HOW
      clear hown hbel
      go_wp2_with fail
      go_ret
      exact ⟨_, rfl, HOW.out, HBE.out⟩

/-- A function: class, kinds, pad, whether without a check, from, to, lines, code, references. -/
structure Fn where
  k : Int
  ks : List Int
  pd : Int
  ns : Bool
  f : Int
  t : Int
  ls : List Ln
  cs : List In5
  rs : List Rl
/-- A function's bytes. -/
def fnB (x : Fn) : List UInt8 := putB x.k 1 ++ (putB (x.ks.length : Int) 1 ++ ksB x.ks) ++ putB x.pd 2 ++ putB (fl x.ns) 1 ++ putB x.f 1 ++ putB x.t 1 ++ (putB (x.ls.length : Int) 1 ++ lnsB x.ls) ++ (putB (x.cs.length : Int) 1 ++ insLB x.cs) ++ (putB (x.rs.length : Int) 1 ++ rlsB x.rs)
theorem blk9 {w : World} {g : Nat} {t : TypeId} {x0 x1 x2 x3 x4 x5 x6 x7 x8 : Value} (h : Blk w g t #[x0, x1, x2, x3, x4, x5, x6, x7, x8]) : w.cell? ⟨g, 0, none⟩ = some x0 ∧ w.cell? ⟨g, 1, none⟩ = some x1 ∧ w.cell? ⟨g, 2, none⟩ = some x2 ∧ w.cell? ⟨g, 3, none⟩ = some x3 ∧ w.cell? ⟨g, 4, none⟩ = some x4 ∧ w.cell? ⟨g, 5, none⟩ = some x5 ∧ w.cell? ⟨g, 6, none⟩ = some x6 ∧ w.cell? ⟨g, 7, none⟩ = some x7 ∧ w.cell? ⟨g, 8, none⟩ = some x8 :=
  ⟨h.cell 0, h.cell 1, h.cell 2, h.cell 3, h.cell 4, h.cell 5, h.cell 6, h.cell 7, h.cell 8⟩
/-- A function in memory: its nine fields, and what its lists hold. -/
structure FnW (w : World) (AK : Option Addr) (nK cK : Nat) (AL : Option Addr) (nL cL : Nat) (AC : Option Addr) (nC cC : Nat) (AR : Option Addr) (nR cR : Nat) (x : Fn) : Prop where
  hk : IW w (.slice AK nK cK) x.ks
  hkl : x.ks.length = nK
  hl : LnL w AL nL cL x.ls
  hc : InL w AC nC cC x.cs
  hr : RlL w AR nR cR x.rs
theorem FnW.on {w w' : World} {AK AL AC AR : Option Addr} {nK cK nL cL nC cC nR cR : Nat} {x : Fn} (h : FnW w AK nK cK AL nL cL AC nC cC AR nR cR x) (hb : Below w.heap.size w w') : FnW w' AK nK cK AL nL cL AC nC cC AR nR cR x :=
  ⟨h.hk.on hb, h.hkl, h.hl.on hb, h.hc.on hb, h.hr.on hb⟩

set_option maxRecDepth 100000 in
set_option maxHeartbeats 8000000 in
theorem putF_any (w : World) (A2 : Option Addr) (m c2 : Nat) (bs : List UInt8) (AK AL AC AR : Option Addr) (nK cK nL cL nC cC nR cR : Nat) (x : Fn) (hm : bs.length = m) (hb : SlV w w.heap.size (.slice A2 m c2) (u8s bs)) (hml : m ≤ 100000) (hF : FnW w AK nK cK AL nL cL AC nC cC AR nR cR x) (hK : nK ≤ 10000) (hL : nL ≤ 10000) (hC : nC ≤ 10000) (hR : nR ≤ 10000) :
    Calls Tryz.prog 22 #[.slice A2 m c2, .agg #[.int .i64 x.k, .slice AK nK cK, .int .i64 x.pd, .bool x.ns, .int .i64 x.f, .int .i64 x.t, .slice AL nL cL, .slice AC nC cC, .slice AR nR cR]] w (BAn (bs ++ fnB x) w) := by
  obtain ⟨k0, ks, pd, ns, f0, t0, ls, cs, rs⟩ := x
  obtain ⟨hk, hkl, hl, hc, hr⟩ := hF
  dsimp only at hk hkl hl hc hr ⊢
  have hll : ls.length = nL := hl.1
  have hcl : cs.length = nC := hc.1
  have hrl : rs.length = nR := hr.1
  obtain ⟨W1, hW1⟩ : ∃ W1, w.alloc (.cells #[.int .i64 k0, .slice AK nK cK, .int .i64 pd, .bool ns, .int .i64 f0, .int .i64 t0, .slice AL nL cL, .slice AC nC cC, .slice AR nR cR] 27) = W1 := ⟨_, rfl⟩
  have hsz1 : w.heap.size < W1.heap.size := by rw [← hW1]; simp
  have HB0 := Lib.hid (show Below w.heap.size w W1 by rw [← hW1]; exact alloc_ _ _)
  have HX := Lib.hid (show ∀ W, Below W1.heap.size W1 W → Blk W w.heap.size 27 #[.int .i64 k0, .slice AK nK cK, .int .i64 pd, .bool ns, .int .i64 f0, .int .i64 t0, .slice AL nL cL, .slice AC nC cC, .slice AR nR cR] from fun W hb => (hb.block _ hsz1).trans (by rw [← hW1]; exact Blk.new w _ _))
  have HN := Lib.hid (fun n W => (fnum_any n W).mono fun _ _ hh => ban_of hh)
  have HLO := Lib.hid (fun n W => (flong_any n W).mono fun _ _ hh => ban_of hh)
  have HFL := Lib.hid (fun b W => (fflag_any b W).mono fun _ _ hh => ban_of hh)
  have HLK := Lib.hid (fun W (hb : Below w.heap.size w W) => (flistK_any W AK nK cK ks (hk.on hb) hkl (by omega)).mono fun _ _ hh => ban_of hh)
  have HLL := Lib.hid (fun W (hb : Below w.heap.size w W) => (flistL_any W AL nL cL ls (hl.on hb) (by omega)).mono fun _ _ hh => ban_of hh)
  have HLC := Lib.hid (fun W (hb : Below w.heap.size w W) => (flistC_any W AC nC cC cs (hc.on hb) (by omega)).mono fun _ _ hh => ban_of hh)
  have HLR := Lib.hid (fun W (hb : Below w.heap.size w W) => (flistR_any W AR nR cR rs (hr.on hb) (by omega)).mono fun _ _ hh => ban_of hh)
  have HSB := Lib.hid (fun W (hbb : Below w.heap.size w W) => (show SlV W W.heap.size (.slice A2 m c2) (u8s bs) from (hb.below hbb).more hbb.size))
  have HFV := Lib.hid (show fnB ⟨k0, ks, pd, ns, f0, t0, ls, cs, rs⟩ = putB k0 1 ++ (putB (nK : Int) 1 ++ ksB ks) ++ putB pd 2 ++ putB (fl ns) 1 ++ putB f0 1 ++ putB t0 1 ++ (putB (nL : Int) 1 ++ lnsB ls) ++ (putB (nC : Int) 1 ++ insLB cs) ++ (putB (nR : Int) 1 ++ rlsB rs) from by unfold fnB; dsimp only; rw [hkl, hll, hcl, hrl])
  have HZ := Lib.hid (show bs.length + (putB k0 1).length + (putB (nK : Int) 1 ++ ksB ks).length + (putB pd 2).length + (putB (fl ns) 1).length + (putB f0 1).length + (putB t0 1).length + (putB (nL : Int) 1 ++ lnsB ls).length + (putB (nC : Int) 1 ++ insLB cs).length + (putB (nR : Int) 1 ++ rlsB rs).length ≤ 1000000 by
    simp only [List.length_append, putB1, putB2, ksB_len, lnsB_len, insLB_len, rlsB_len]; omega)
  have HM := Lib.hid hm
  have hHeld := blk9 (HX.out W1.drew (drew_below W1))
  have HD0 := Lib.hid (drew_below W1)
  obtain ⟨N, hN⟩ : ∃ N, (bs ++ fnB ⟨k0, ks, pd, ns, f0, t0, ls, cs, rs⟩).length = N := ⟨_, rfl⟩
  have HN9 := Lib.hid hN
  clear hN hb hm hml hk hkl hl hc hr hK hL hC hR hll hcl hrl
  go_enter Tryz.func22, Tryz.ntmps22
  go_wp2_with fail
  clear hW1
  refine wp_region_noPanic ?_
  refine wp_region_held_drew (S := fun W' => W'.cell? ⟨w.heap.size, 0, none⟩ = some (.int .i64 k0) ∧ W'.cell? ⟨w.heap.size, 1, none⟩ = some (.slice AK nK cK) ∧ W'.cell? ⟨w.heap.size, 2, none⟩ = some (.int .i64 pd) ∧ W'.cell? ⟨w.heap.size, 3, none⟩ = some (.bool ns) ∧ W'.cell? ⟨w.heap.size, 4, none⟩ = some (.int .i64 f0) ∧ W'.cell? ⟨w.heap.size, 5, none⟩ = some (.int .i64 t0) ∧ W'.cell? ⟨w.heap.size, 6, none⟩ = some (.slice AL nL cL) ∧ W'.cell? ⟨w.heap.size, 7, none⟩ = some (.slice AC nC cC) ∧ W'.cell? ⟨w.heap.size, 8, none⟩ = some (.slice AR nR cR)) (by kernel_rfl) (hHeld) (fun hHeld => ?_)
  refine wpAnyH_take (i := 0) rfl (by kernel_rfl) (by kernel_rfl) (by kernel_rfl) (fun _ _ _ h => h) (Or.inl ⟨by rfl, by intro W hSW; (try dsimp only at hSW); go_simp; try (with_reducible rfl)⟩) hHeld ?_
  try simp only [Act.put, List.getElem_toArray, List.getElem_cons_zero, List.getElem_cons_succ, List.setIfInBounds_toArray, List.set_cons_zero, List.set_cons_succ]
  refine wpAnyH_take (i := 1) rfl (by kernel_rfl) (by kernel_rfl) (by kernel_rfl) (fun _ _ _ h => h) (Or.inl ⟨by rfl, by intro W hSW; (try dsimp only at hSW); go_simp; try (with_reducible rfl)⟩) hHeld ?_
  try simp only [Act.put, List.getElem_toArray, List.getElem_cons_zero, List.getElem_cons_succ, List.setIfInBounds_toArray, List.set_cons_zero, List.set_cons_succ]
  refine wpAnyH_take (i := 2) rfl (by kernel_rfl) (by kernel_rfl) (by kernel_rfl) (fun _ _ _ h => h) (Or.inl ⟨by rfl, by intro W hSW; (try dsimp only at hSW); go_simp; try (with_reducible rfl)⟩) hHeld ?_
  try simp only [Act.put, List.getElem_toArray, List.getElem_cons_zero, List.getElem_cons_succ, List.setIfInBounds_toArray, List.set_cons_zero, List.set_cons_succ]
  refine wpAnyH_take (i := 4) rfl (by kernel_rfl) (by kernel_rfl) (by kernel_rfl) (fun _ _ _ h => h) (Or.inl ⟨by rfl, by intro W hSW; (try dsimp only at hSW); go_simp; try (with_reducible rfl)⟩) hHeld ?_
  try simp only [Act.put, List.getElem_toArray, List.getElem_cons_zero, List.getElem_cons_succ, List.setIfInBounds_toArray, List.set_cons_zero, List.set_cons_succ]
  refine wpAnyH_take (i := 5) rfl (by kernel_rfl) (by kernel_rfl) (by kernel_rfl) (fun _ _ _ h => h) (Or.inl ⟨by rfl, by intro W hSW; (try dsimp only at hSW); go_simp; try (with_reducible rfl)⟩) hHeld ?_
  try simp only [Act.put, List.getElem_toArray, List.getElem_cons_zero, List.getElem_cons_succ, List.setIfInBounds_toArray, List.set_cons_zero, List.set_cons_succ]
  refine wpAnyH_take (i := 7) rfl (by kernel_rfl) (by kernel_rfl) (by kernel_rfl) (fun _ _ _ h => h) (Or.inl ⟨by rfl, by intro W hSW; (try dsimp only at hSW); go_simp; try (with_reducible rfl)⟩) hHeld ?_
  try simp only [Act.put, List.getElem_toArray, List.getElem_cons_zero, List.getElem_cons_succ, List.setIfInBounds_toArray, List.set_cons_zero, List.set_cons_succ]
  refine wpAnyH_take (i := 8) rfl (by kernel_rfl) (by kernel_rfl) (by kernel_rfl) (fun _ _ _ h => h) (Or.inl ⟨by rfl, by intro W hSW; (try dsimp only at hSW); go_simp; try (with_reducible rfl)⟩) hHeld ?_
  try simp only [Act.put, List.getElem_toArray, List.getElem_cons_zero, List.getElem_cons_succ, List.setIfInBounds_toArray, List.set_cons_zero, List.set_cons_succ]
  refine wpAnyH_take (i := 10) rfl (by kernel_rfl) (by kernel_rfl) (by kernel_rfl) (fun _ _ _ h => h) (Or.inl ⟨by rfl, by intro W hSW; (try dsimp only at hSW); go_simp; try (with_reducible rfl)⟩) hHeld ?_
  try simp only [Act.put, List.getElem_toArray, List.getElem_cons_zero, List.getElem_cons_succ, List.setIfInBounds_toArray, List.set_cons_zero, List.set_cons_succ]
  refine wpAnyH_take (i := 11) rfl (by kernel_rfl) (by kernel_rfl) (by kernel_rfl) (fun _ _ _ h => h) (Or.inl ⟨by rfl, by intro W hSW; (try dsimp only at hSW); go_simp; try (with_reducible rfl)⟩) hHeld ?_
  try simp only [Act.put, List.getElem_toArray, List.getElem_cons_zero, List.getElem_cons_succ, List.setIfInBounds_toArray, List.set_cons_zero, List.set_cons_succ]
  refine wpAnyH_take (i := 13) rfl (by kernel_rfl) (by kernel_rfl) (by kernel_rfl) (fun _ _ _ h => h) (Or.inl ⟨by rfl, by intro W hSW; (try dsimp only at hSW); go_simp; try (with_reducible rfl)⟩) hHeld ?_
  try simp only [Act.put, List.getElem_toArray, List.getElem_cons_zero, List.getElem_cons_succ, List.setIfInBounds_toArray, List.set_cons_zero, List.set_cons_succ]
  refine wpAnyH_take (i := 14) rfl (by kernel_rfl) (by kernel_rfl) (by kernel_rfl) (fun _ _ _ h => h) (Or.inl ⟨by rfl, by intro W hSW; (try dsimp only at hSW); go_simp; try (with_reducible rfl)⟩) hHeld ?_
  try simp only [Act.put, List.getElem_toArray, List.getElem_cons_zero, List.getElem_cons_succ, List.setIfInBounds_toArray, List.set_cons_zero, List.set_cons_succ]
  refine wpAnyH_take (i := 16) rfl (by kernel_rfl) (by kernel_rfl) (by kernel_rfl) (fun _ _ _ h => h) (Or.inl ⟨by rfl, by intro W hSW; (try dsimp only at hSW); go_simp; try (with_reducible rfl)⟩) hHeld ?_
  try simp only [Act.put, List.getElem_toArray, List.getElem_cons_zero, List.getElem_cons_succ, List.setIfInBounds_toArray, List.set_cons_zero, List.set_cons_succ]
  refine wpAnyH_take (i := 17) rfl (by kernel_rfl) (by kernel_rfl) (by kernel_rfl) (fun _ _ _ h => h) (Or.inl ⟨by rfl, by intro W hSW; (try dsimp only at hSW); go_simp; try (with_reducible rfl)⟩) hHeld ?_
  try simp only [Act.put, List.getElem_toArray, List.getElem_cons_zero, List.getElem_cons_succ, List.setIfInBounds_toArray, List.set_cons_zero, List.set_cons_succ]
  refine wpAnyH_take (i := 19) rfl (by kernel_rfl) (by kernel_rfl) (by kernel_rfl) (fun _ _ _ h => h) (Or.inl ⟨by rfl, by intro W hSW; (try dsimp only at hSW); go_simp; try (with_reducible rfl)⟩) hHeld ?_
  try simp only [Act.put, List.getElem_toArray, List.getElem_cons_zero, List.getElem_cons_succ, List.setIfInBounds_toArray, List.set_cons_zero, List.set_cons_succ]
  refine wpAnyH_take (i := 20) rfl (by kernel_rfl) (by kernel_rfl) (by kernel_rfl) (fun _ _ _ h => h) (Or.inl ⟨by rfl, by intro W hSW; (try dsimp only at hSW); go_simp; try (with_reducible rfl)⟩) hHeld ?_
  try simp only [Act.put, List.getElem_toArray, List.getElem_cons_zero, List.getElem_cons_succ, List.setIfInBounds_toArray, List.set_cons_zero, List.set_cons_succ]
  refine wpAnyH_take (i := 22) rfl (by kernel_rfl) (by kernel_rfl) (by kernel_rfl) (fun _ _ _ h => h) (Or.inl ⟨by rfl, by intro W hSW; (try dsimp only at hSW); go_simp; try (with_reducible rfl)⟩) hHeld ?_
  try simp only [Act.put, List.getElem_toArray, List.getElem_cons_zero, List.getElem_cons_succ, List.setIfInBounds_toArray, List.set_cons_zero, List.set_cons_succ]
  refine wpAnyH_take (i := 23) rfl (by kernel_rfl) (by kernel_rfl) (by kernel_rfl) (fun _ _ _ h => h) (Or.inl ⟨by rfl, by intro W hSW; (try dsimp only at hSW); go_simp; try (with_reducible rfl)⟩) hHeld ?_
  try simp only [Act.put, List.getElem_toArray, List.getElem_cons_zero, List.getElem_cons_succ, List.setIfInBounds_toArray, List.set_cons_zero, List.set_cons_succ]
  refine wpAnyH_take (i := 25) rfl (by kernel_rfl) (by kernel_rfl) (by kernel_rfl) (fun _ _ _ h => h) (Or.inl ⟨by rfl, by intro W hSW; (try dsimp only at hSW); go_simp; try (with_reducible rfl)⟩) hHeld ?_
  try simp only [Act.put, List.getElem_toArray, List.getElem_cons_zero, List.getElem_cons_succ, List.setIfInBounds_toArray, List.set_cons_zero, List.set_cons_succ]
  refine wpAnyH_take (i := 26) rfl (by kernel_rfl) (by kernel_rfl) (by kernel_rfl) (fun _ _ _ h => h) (Or.inl ⟨by rfl, by intro W hSW; (try dsimp only at hSW); go_simp; try (with_reducible rfl)⟩) hHeld ?_
  try simp only [Act.put, List.getElem_toArray, List.getElem_cons_zero, List.getElem_cons_succ, List.setIfInBounds_toArray, List.set_cons_zero, List.set_cons_succ]
  refine wpAnyH_ready (rs := [3]) (by kernel_rfl) (by simp) ?_
  refine AllReadyH.cons rfl (fun K hK => ?_) AllReadyH.nil
  go_simp
  refine (HN.out _ _).mono ?_
  rintro e wa ⟨Aa, ca, rfl, ha, ba⟩
  have Ha := Lib.hid ha
  have HBa := Lib.hid (to_ HD0.out ba)
  clear ha ba
  try go_wp2_with fail
  refine hK.out _ _ (blk9 (HX.out _ HBa.out)) ?_
  clear hK K hHeld
  intro hHeld
  try simp only [Act.put, List.getElem_toArray, List.getElem_cons_zero, List.getElem_cons_succ, List.setIfInBounds_toArray, List.set_cons_zero, List.set_cons_succ]
  refine wpAnyH_ready (rs := [6]) (by kernel_rfl) (by simp) ?_
  refine AllReadyH.cons rfl (fun K hK => ?_) AllReadyH.nil
  go_simp
  refine (HLK.out wa (to_ HB0.out HBa.out)).mono ?_
  rintro e wb ⟨Ab, cb, rfl, hb, bb⟩
  have Hb := Lib.hid hb
  have Hab := Lib.hid ((Ha.out.below bb).more bb.size)
  have HBb := Lib.hid (to_ HBa.out bb)
  clear hb bb
  try go_wp2_with fail
  refine hK.out _ _ (blk9 (HX.out _ HBb.out)) ?_
  clear hK K hHeld
  intro hHeld
  try simp only [Act.put, List.getElem_toArray, List.getElem_cons_zero, List.getElem_cons_succ, List.setIfInBounds_toArray, List.set_cons_zero, List.set_cons_succ]
  refine wpAnyH_ready (rs := [9]) (by kernel_rfl) (by simp) ?_
  refine AllReadyH.cons rfl (fun K hK => ?_) AllReadyH.nil
  go_simp
  refine (HLO.out _ _).mono ?_
  rintro e wc ⟨Ac, cc, rfl, hc, bc⟩
  have Hc := Lib.hid hc
  have Hac := Lib.hid ((Hab.out.below bc).more bc.size)
  clear Hab
  have Hbc := Lib.hid ((Hb.out.below bc).more bc.size)
  have HBc := Lib.hid (to_ HBb.out bc)
  clear hc bc
  try go_wp2_with fail
  refine hK.out _ _ (blk9 (HX.out _ HBc.out)) ?_
  clear hK K hHeld
  intro hHeld
  try simp only [Act.put, List.getElem_toArray, List.getElem_cons_zero, List.getElem_cons_succ, List.setIfInBounds_toArray, List.set_cons_zero, List.set_cons_succ]
  refine wpAnyH_ready (rs := [12]) (by kernel_rfl) (by simp) ?_
  refine AllReadyH.cons rfl (fun K hK => ?_) AllReadyH.nil
  go_simp
  refine (HFL.out _ _).mono ?_
  rintro e wd ⟨Ad, cd, rfl, hd, bd⟩
  have Hd := Lib.hid hd
  have Had := Lib.hid ((Hac.out.below bd).more bd.size)
  clear Hac
  have Hbd := Lib.hid ((Hbc.out.below bd).more bd.size)
  clear Hbc
  have Hcd := Lib.hid ((Hc.out.below bd).more bd.size)
  have HBd := Lib.hid (to_ HBc.out bd)
  clear hd bd
  try go_wp2_with fail
  refine hK.out _ _ (blk9 (HX.out _ HBd.out)) ?_
  clear hK K hHeld
  intro hHeld
  try simp only [Act.put, List.getElem_toArray, List.getElem_cons_zero, List.getElem_cons_succ, List.setIfInBounds_toArray, List.set_cons_zero, List.set_cons_succ]
  refine wpAnyH_ready (rs := [15]) (by kernel_rfl) (by simp) ?_
  refine AllReadyH.cons rfl (fun K hK => ?_) AllReadyH.nil
  go_simp
  refine (HN.out _ _).mono ?_
  rintro e we ⟨Ae, ce, rfl, he, be⟩
  have He := Lib.hid he
  have Hae := Lib.hid ((Had.out.below be).more be.size)
  clear Had
  have Hbe := Lib.hid ((Hbd.out.below be).more be.size)
  clear Hbd
  have Hce := Lib.hid ((Hcd.out.below be).more be.size)
  clear Hcd
  have Hde := Lib.hid ((Hd.out.below be).more be.size)
  have HBe := Lib.hid (to_ HBd.out be)
  clear he be
  try go_wp2_with fail
  refine hK.out _ _ (blk9 (HX.out _ HBe.out)) ?_
  clear hK K hHeld
  intro hHeld
  try simp only [Act.put, List.getElem_toArray, List.getElem_cons_zero, List.getElem_cons_succ, List.setIfInBounds_toArray, List.set_cons_zero, List.set_cons_succ]
  refine wpAnyH_ready (rs := [18]) (by kernel_rfl) (by simp) ?_
  refine AllReadyH.cons rfl (fun K hK => ?_) AllReadyH.nil
  go_simp
  refine (HN.out _ _).mono ?_
  rintro e wf ⟨Af, cf, rfl, hf, bf⟩
  have Hf := Lib.hid hf
  have Haf := Lib.hid ((Hae.out.below bf).more bf.size)
  clear Hae
  have Hbf := Lib.hid ((Hbe.out.below bf).more bf.size)
  clear Hbe
  have Hcf := Lib.hid ((Hce.out.below bf).more bf.size)
  clear Hce
  have Hdf := Lib.hid ((Hde.out.below bf).more bf.size)
  clear Hde
  have Hef := Lib.hid ((He.out.below bf).more bf.size)
  have HBf := Lib.hid (to_ HBe.out bf)
  clear hf bf
  try go_wp2_with fail
  refine hK.out _ _ (blk9 (HX.out _ HBf.out)) ?_
  clear hK K hHeld
  intro hHeld
  try simp only [Act.put, List.getElem_toArray, List.getElem_cons_zero, List.getElem_cons_succ, List.setIfInBounds_toArray, List.set_cons_zero, List.set_cons_succ]
  refine wpAnyH_ready (rs := [21]) (by kernel_rfl) (by simp) ?_
  refine AllReadyH.cons rfl (fun K hK => ?_) AllReadyH.nil
  go_simp
  refine (HLL.out wf (to_ HB0.out HBf.out)).mono ?_
  rintro e wg ⟨Ag, cg, rfl, hg, bg⟩
  have Hg := Lib.hid hg
  have Hag := Lib.hid ((Haf.out.below bg).more bg.size)
  clear Haf
  have Hbg := Lib.hid ((Hbf.out.below bg).more bg.size)
  clear Hbf
  have Hcg := Lib.hid ((Hcf.out.below bg).more bg.size)
  clear Hcf
  have Hdg := Lib.hid ((Hdf.out.below bg).more bg.size)
  clear Hdf
  have Heg := Lib.hid ((Hef.out.below bg).more bg.size)
  clear Hef
  have Hfg := Lib.hid ((Hf.out.below bg).more bg.size)
  have HBg := Lib.hid (to_ HBf.out bg)
  clear hg bg
  try go_wp2_with fail
  refine hK.out _ _ (blk9 (HX.out _ HBg.out)) ?_
  clear hK K hHeld
  intro hHeld
  try simp only [Act.put, List.getElem_toArray, List.getElem_cons_zero, List.getElem_cons_succ, List.setIfInBounds_toArray, List.set_cons_zero, List.set_cons_succ]
  refine wpAnyH_ready (rs := [24]) (by kernel_rfl) (by simp) ?_
  refine AllReadyH.cons rfl (fun K hK => ?_) AllReadyH.nil
  go_simp
  refine (HLC.out wg (to_ HB0.out HBg.out)).mono ?_
  rintro e wh ⟨Ah, ch, rfl, hh, bh⟩
  have Hh := Lib.hid hh
  have Hah := Lib.hid ((Hag.out.below bh).more bh.size)
  clear Hag
  have Hbh := Lib.hid ((Hbg.out.below bh).more bh.size)
  clear Hbg
  have Hch := Lib.hid ((Hcg.out.below bh).more bh.size)
  clear Hcg
  have Hdh := Lib.hid ((Hdg.out.below bh).more bh.size)
  clear Hdg
  have Heh := Lib.hid ((Heg.out.below bh).more bh.size)
  clear Heg
  have Hfh := Lib.hid ((Hfg.out.below bh).more bh.size)
  clear Hfg
  have Hgh := Lib.hid ((Hg.out.below bh).more bh.size)
  have HBh := Lib.hid (to_ HBg.out bh)
  clear hh bh
  try go_wp2_with fail
  refine hK.out _ _ (blk9 (HX.out _ HBh.out)) ?_
  clear hK K hHeld
  intro hHeld
  try simp only [Act.put, List.getElem_toArray, List.getElem_cons_zero, List.getElem_cons_succ, List.setIfInBounds_toArray, List.set_cons_zero, List.set_cons_succ]
  refine wpAnyH_ready (rs := [27]) (by kernel_rfl) (by simp) ?_
  refine AllReadyH.cons rfl (fun K hK => ?_) AllReadyH.nil
  go_simp
  refine (HLR.out wh (to_ HB0.out HBh.out)).mono ?_
  rintro e wi ⟨Ai, ci, rfl, hi, bi⟩
  have Hi := Lib.hid hi
  have Hai := Lib.hid ((Hah.out.below bi).more bi.size)
  clear Hah
  have Hbi := Lib.hid ((Hbh.out.below bi).more bi.size)
  clear Hbh
  have Hci := Lib.hid ((Hch.out.below bi).more bi.size)
  clear Hch
  have Hdi := Lib.hid ((Hdh.out.below bi).more bi.size)
  clear Hdh
  have Hei := Lib.hid ((Heh.out.below bi).more bi.size)
  clear Heh
  have Hfi := Lib.hid ((Hfh.out.below bi).more bi.size)
  clear Hfh
  have Hgi := Lib.hid ((Hgh.out.below bi).more bi.size)
  clear Hgh
  have Hhi := Lib.hid ((Hh.out.below bi).more bi.size)
  have HBi := Lib.hid (to_ HBh.out bi)
  clear hi bi
  try go_wp2_with fail
  refine hK.out _ _ (blk9 (HX.out _ HBi.out)) ?_
  clear hK K hHeld
  intro hHeld
  try simp only [Act.put, List.getElem_toArray, List.getElem_cons_zero, List.getElem_cons_succ, List.setIfInBounds_toArray, List.set_cons_zero, List.set_cons_succ]
  have HAL := Lib.hid (fun o => alloc_ wi o)
  refine wpAnyH_ready (rs := [28]) (by kernel_rfl) (by simp) ?_
  refine AllReadyH.cons rfl (fun K hK => ?_) AllReadyH.nil
  go_simp
  refine hK.out _ _ (blk9 (HX.out _ (to_ HBi.out (HAL.out _)))) ?_
  clear hK K hHeld
  intro hHeld
  try simp only [Act.put, List.getElem_toArray, List.getElem_cons_zero, List.getElem_cons_succ, List.setIfInBounds_toArray, List.set_cons_zero, List.set_cons_succ]
  refine wpAnyH_ready (rs := [29]) (by kernel_rfl) (by simp) ?_
  refine AllReadyH.cons rfl (fun K hK => ?_) AllReadyH.nil
  go_simp
  refine ((cat_any wi [(A2, c2, bs), (Aa, ca, putB k0 1), (Ab, cb, putB (nK : Int) 1 ++ ksB ks), (Ac, cc, putB pd 2), (Ad, cd, putB (fl ns) 1), (Ae, ce, putB f0 1), (Af, cf, putB t0 1), (Ag, cg, putB (nL : Int) 1 ++ lnsB ls), (Ah, ch, putB (nC : Int) 1 ++ insLB cs), (Ai, ci, putB (nR : Int) 1 ++ rlsB rs)] 10 _ _ rfl (by simp [pvb, HM.out]) (fun p hp => by
      simp only [List.mem_cons, List.not_mem_nil, or_false] at hp
      rcases hp with rfl | rfl | rfl | rfl | rfl | rfl | rfl | rfl | rfl | rfl
      · have := HSB.out wi (to_ HB0.out HBi.out)
        unfold pvb; rw [HM.out]; exact this
      · exact Hai.out
      · exact Hbi.out
      · exact Hci.out
      · exact Hdi.out
      · exact Hei.out
      · exact Hfi.out
      · exact Hgi.out
      · exact Hhi.out
      · exact Hi.out) (by have := HZ.out; simp only [List.flatMap_cons, List.flatMap_nil, List.length_append, List.append_nil] at this ⊢; omega) (by decide)).mono fun _ _ hh => ban_n (by rw [HFV.out]; simp [List.append_assoc]) HN9.out hh).mono ?_
  rintro e w9 ⟨A9, c9, rfl, h9, b9⟩
  have HB9 := Lib.hid (to_ (to_ HBi.out (HAL.out _)) b9)
  have H9 := Lib.hid h9
  clear b9 h9
  try go_wp2_with fail
  refine hK.out _ _ (blk9 (HX.out _ HB9.out)) ?_
  clear hK K hHeld
  intro hHeld
  try simp only [Act.put, List.getElem_toArray, List.getElem_cons_zero, List.getElem_cons_succ, List.setIfInBounds_toArray, List.set_cons_zero, List.set_cons_succ]
  refine wpAnyH_take (i := 30) rfl (by kernel_rfl) (by kernel_rfl) (by kernel_rfl) (fun _ _ _ h => h) (Or.inl ⟨by rfl, by intro W hSW; (try dsimp only at hSW); go_simp; try (with_reducible rfl)⟩) hHeld ?_
  try simp only [Act.put, List.getElem_toArray, List.getElem_cons_zero, List.getElem_cons_succ, List.setIfInBounds_toArray, List.set_cons_zero, List.set_cons_succ]
  refine wpAnyH_done (by kernel_rfl) ?_ _
  refine NoPanic.normal ?_
  go_wp2_with fail
  go_ret
  exact n_ban HN9.out ⟨A9, c9, rfl, H9.out, to_ HB0.out HB9.out⟩
end Go.Proofs.YtbknmapkdjmcjaaGreatDoor.By
