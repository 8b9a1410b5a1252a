/-
 Rb2 Lv2
-/
import Derived.Test.YtdaimeaofgbfpaaGreatZa2
import Derived.Test.YtdaimeaofgbfpaaGreatLb2
import Derived.Test.YtdaimeaofgbfpaaGreatLr2
import Derived.Test.YtdaimeaofgbfpaaGreatLd2
set_option linter.unusedSimpArgs false
set_option linter.unusedVariables false
namespace Go.Proofs.YtdaimeaofgbfpaaGreat.Bo
open Go.RowKit Go.Maps
open Mem Rf
set_option maxRecDepth 100000 in
set_option maxHeartbeats 8000000 in
theorem same10_any (w : World) (A A2 : Option Addr) (n c c2 : Nat) (L : List (List Int)) (hl : L.length = n) (hn : n ≤ 1000) (hr : ∀ i, (By.rowOf L i).length ≤ 100000) (h : By.Gr w w.heap.size (.slice A n c) L) (h2 : By.Gr w w.heap.size (.slice A2 n c2) L) :
  Calls Tryz.prog 21 #[.slice A n c, .slice A2 n c2] w fun e w' => e = .returned (.bool true) ∧ Below w.heap.size w w' := by
 have HG := Hd (fun W (hb : Below w.heap.size w W) => gr_on h hb)
 have HG2 := Hd (fun W (hb : Below w.heap.size w W) => gr_on h2 hb)
 have HL := Hd hl
 have HR := Hd hr
 clear h h2 hl hr
 go_enter Tryz.func21, Tryz.ntmps21
 go_wp2_with fail
 go_loopw [5] (fun i9 wr => ∃ a : Nat, a ≤ n ∧ i9 = .int .i64 (a : Int) ∧ Hid (Below w.heap.size w wr)) (fun i9 _ => n - (intOf i9).toNat)
 case atStart => exact ⟨0, Nat.zero_le _, rfl, Hd (Below.refl _ _)⟩
 case round =>
  obtain ⟨a, ha, rfl, HBW⟩ := hrel
  by_cases hlt : a < n
  ·have haI : (a : Int) < (n : Int) := by omega
   have ha0 : (0 : Int) ≤ (a : Int) := by omega
   have HLT := Hd hlt
   obtain ⟨ad, A', c', rfl, _, y0, hil⟩ := gr_at (HG.out wr HBW.out) HL.out (Nat.le_refl _) hlt
   obtain ⟨ad2, B', d', rfl, _, z0, hil2⟩ := gr_at (HG2.out wr HBW.out) HL.out (Nat.le_refl _) hlt
   have HRA := Hd (HR.out a)
   obtain ⟨l, hl9⟩ : ∃ l, By.rowOf L a = l := ⟨_, rfl⟩
   rw [hl9] at y0 z0 hil hil2 HRA
   clear hl9
   obtain ⟨m, hm⟩ : ∃ m, l.length = m := ⟨_, rfl⟩
   rw [hm] at y0 z0 hil hil2 HRA
   have hm9 := HRA.out
   clear hm
   have HI1 := Hd (fun W (hb : Below wr.heap.size wr W) => hil.on hb)
   have HI2 := Hd (fun W (hb : Below wr.heap.size wr W) => hil2.on hb)
   have HY := Hd (fun W (hb : Below wr.heap.size wr W) => cell_on y0 hb)
   have HZ := Hd (fun W (hb : Below wr.heap.size wr W) => cell_on z0 hb)
   clear hil hil2
   go_wp2_with fail
   refine wp_region_noPanic ?_
   refine wp_region_held_drew (S := fun W => W.cell? (ad.add a) = some (.slice A' m c') ∧ W.cell? (ad2.add a) = some (.slice B' m d')) (by kernel_rfl) (⟨y0, z0⟩) (fun hHeld => ?_)
   refine tk8Z 0 1 2 3 4 5 6 7 hHeld ?_
   refine tk3Z 8 9 10 hHeld ?_
   refine wpAnyH_done (by kernel_rfl) ?_ _
   refine NoPanic.normal ?_
   clear hHeld y0 z0
   go_wp2_with fail
   go_loopw [6] (fun i9 ws => ∃ k : Nat, k ≤ m ∧ i9 = .int .i64 (k : Int) ∧ Hid (Below wr.heap.size wr ws)) (fun i9 _ => m - (intOf i9).toNat)
   case atStart => exact ⟨0, Nat.zero_le _, rfl, Hd (Below.refl _ _).drew⟩
   case round =>
    rename_i ws9
    obtain ⟨k, hk, rfl, HBS⟩ := hrel
    have y0 := HY.out _ HBS.out
    have z0 := HZ.out _ HBS.out
    by_cases hkl : k < m
    ·have hkI : (k : Int) < (m : Int) := by omega
     have hk0 : (0 : Int) ≤ (k : Int) := by omega
     have HKL := Hd hkl
     obtain ⟨lad, rfl, _, y1⟩ := (HI1.out _ HBS.out).at_ hkl
     obtain ⟨lad2, rfl, _, z1⟩ := (HI2.out _ HBS.out).at_ hkl
     go_wp2_with fail
     refine wp_region_noPanic ?_
     refine wp_region_held_drew (S := fun W => W.cell? (ad.add a) = some (.slice (some lad) m c') ∧ W.cell? (ad2.add a) = some (.slice (some lad2) m d') ∧ W.cell? (lad.add k) = some (.int .i64 (l.getD k 0)) ∧ W.cell? (lad2.add k) = some (.int .i64 (l.getD k 0))) (by kernel_rfl) (⟨y0, z0, y1, z1⟩) (fun hHeld => ?_)
     refine tk8Z 0 1 2 3 4 5 6 7 hHeld ?_
     refine tk7Z 8 9 10 11 12 13 14 hHeld ?_
     refine wpAnyH_done (by kernel_rfl) ?_ _
     refine NoPanic.normal ?_
     clear hHeld y0 z0 y1 z1
     go_wp2_with fail
     go_roundw
     case rel => exact ⟨k + 1, by have := HKL.out; omega, by go_num, Hd HBS.out.drew⟩
     case measure => have := HKL.out; simp [intOf]; omega
    ·obtain rfl : m = k := by omega
     go_wp2_with fail
     go_roundw
     case rel => exact ⟨a + 1, by have := HLT.out; omega, by go_num, Hd (to_ HBW.out HBS.out)⟩
     case measure => have := HLT.out; simp [intOf]; omega
  ·obtain rfl : n = a := by omega
   go_wp2_with fail
   go_ret
   exact ⟨rfl, HBW.out⟩
theorem edgL_len (P : Pgm) (i : Nat) : (edgL P i).length ≤ P.fn := by
 unfold edgL
 split
 ·exact rise_len _ _
 ·simp
theorem called_any (w : World) (P : Pgm) (h : PgR w P) : Calls Tryz.prog 19 #[pgV P] w (BlA w P.fn (calledB P)) :=
 called_of w P h (graphG P) (graphG_len P) (fun p => rows_at (fun a => Nat.le_trans (edgL_len P a) h.few.1) p) (fun W hb => graph_any W P (h.on hb))
theorem sl_lit {W : World} {b : Nat} {l : List Int} (h : Blk W b 3 (By.ints l).toArray) (hl : l.length ≤ maxLen) : SlV W W.heap.size (.slice (some ⟨b, 0, none⟩) l.length l.length) (By.ints l) := by
 have e : (By.ints l).length = l.length := by simp [By.ints]
 rw [← e] at hl ⊢
 exact .at_ _ _ _ (Nat.le_refl _) hl fun j u hu => ⟨h.lt, by rw [add_plain, Nat.zero_add, h.cell, List.getElem?_toArray]; exact hu⟩
theorem gr_lit {W : World} {g : Nat} {rs : List Value} {L : List (List Int)} (h : Blk W g 44 rs.toArray) (hl : rs.length = L.length) (hm : L.length ≤ maxLen)
  (hr : ∀ (i : Nat) rv, rs[i]? = some rv → ∃ A c, rv = .slice A (By.rowOf L i).length c ∧ SlV W W.heap.size rv (By.ints (By.rowOf L i))) : By.Gr W W.heap.size (.slice (some ⟨g, 0, none⟩) L.length L.length) L := by
 refine ⟨rs, ?_, hl, hr⟩
 rw [← hl] at hm ⊢
 exact .at_ _ _ _ (Nat.le_refl _) hm fun j u hu => ⟨h.lt, by rw [add_plain, Nat.zero_add, h.cell, List.getElem?_toArray]; exact hu⟩
theorem litB (W : World) (x : List Int) (hx : x.length ≤ maxLen) : let W3 := (W.alloc (.cells (By.ints x).toArray 3)).alloc (.cells #[.slice (some ⟨W.heap.size, 0, none⟩) x.length x.length, .slice none 0 0, .slice none 0 0, .slice none 0 0] 44)
  By.Gr W3 W3.heap.size (.slice (some ⟨W.heap.size + 1, 0, none⟩) 4 4) [x, [], [], []] := by
 intro W3
 have b1 : Blk W3 W.heap.size 3 (By.ints x).toArray := (Blk.new _ _ _).alloc _
 refine gr_lit (rs := [.slice (some ⟨W.heap.size, 0, none⟩) x.length x.length, .slice none 0 0, .slice none 0 0, .slice none 0 0]) (L := [x, [], [], []]) (By.Blk.at_ _ _ (by simp only [World.size_alloc])) rfl (by unfold maxLen; simp) (fun i rv hi => ?_)
 rcases i with _ | _ | _ | _ | i
 ·injection hi with hi; subst hi; exact ⟨_, _, rfl, sl_lit b1 hx⟩
 ·injection hi with hi; subst hi; exact ⟨none, 0, rfl, .nil⟩
 ·injection hi with hi; subst hi; exact ⟨none, 0, rfl, .nil⟩
 ·injection hi with hi; subst hi; exact ⟨none, 0, rfl, .nil⟩
 ·simp at hi
theorem same4 (W : World) (A A2 : Option Addr) (L : List (List Int)) (hl : L.length = 4) (hr : ∀ i, (By.rowOf L i).length ≤ 100000) (h : By.Gr W W.heap.size (.slice A 4 4) L) (h2 : By.Gr W W.heap.size (.slice A2 4 4) L) :
  Calls Tryz.prog 21 #[.slice A 4 4, .slice A2 4 4] W fun e w' => e = .returned (.bool true) ∧ Below W.heap.size W w' := same10_any W A A2 4 4 4 L hl (by omega) hr h h2
theorem row4 {a b c d : List Int} (ha : a.length ≤ 100) (hb : b.length ≤ 100) (hc : c.length ≤ 100) (hd : d.length ≤ 100) (i : Nat) : (By.rowOf [a, b, c, d] i).length ≤ 100000 := by
 rcases i with _ | _ | _ | _ | i
 ·show a.length ≤ _; omega
 ·show b.length ≤ _; omega
 ·show c.length ≤ _; omega
 ·show d.length ≤ _; omega
 ·simp [By.rowOf]
theorem bl_lit (W : World) (l : List Bool) (hl : l.length ≤ 1000) : BL (W.alloc (.cells (l.map Value.bool).toArray 4)) (some ⟨W.heap.size, 0, none⟩) l.length l.length l := by
 exact wd_blk (enc := encB) (l := l) (Blk.new W 4 (l.map Value.bool).toArray) encB_len (by
  congr 1
  clear hl
  induction l with
  | nil => rfl
  | cons a l ih => simp [encB, ih]) (by unfold maxLen; omega)
theorem two_live (N : Nat) : (List.range 4).map (liveB (twoP N)) = [true, true, true, false] := by kernel_rfl
theorem two_taken (N : Nat) : (List.range 4).map (takenB (twoP N)) = [false, true, false, false] := by kernel_rfl
theorem two_called (N : Nat) : (List.range 4).map (calledB (twoP N)) = [true, true, true, false] := by kernel_rfl
theorem two_graph (N : Nat) : graphG (twoP N) = [[1, 2], [], [], []] := by kernel_rfl
set_option maxRecDepth 100000 in
set_option maxHeartbeats 8000000 in
theorem known26_any (w : World) : Calls Tryz.prog 10 #[] w fun e w' => e = .returned (.bool true) ∧ Below w.heap.size w w' := by
 have HLive := Hd (fun (w1 : World) (hp : PgR w1 (twoP w.heap.size)) W (hb : Below w1.heap.size w1 W) => show Calls Tryz.prog 15 #[.agg #[.slice (some ⟨w.heap.size + 16, 0, none⟩) 4 4, .slice none 0 0, .int .i64 0]] W (fun e w' => ∃ A c, e = .returned (.slice A 4 c) ∧ BL w' A 4 c [true, true, true, false] ∧ Below W.heap.size W w') from by
  refine (live_any W (twoP w.heap.size) (hp.on hb)).mono ?_
  rintro e w' ⟨A, c, rfl, h1, h2, _⟩
  exact ⟨A, c, rfl, by rw [← two_live w.heap.size]; exact h1, h2⟩)
 have HTaken := Hd (fun (w1 : World) (hp : PgR w1 (twoP w.heap.size)) W (hb : Below w1.heap.size w1 W) => show Calls Tryz.prog 17 #[.agg #[.slice (some ⟨w.heap.size + 16, 0, none⟩) 4 4, .slice none 0 0, .int .i64 0]] W (fun e w' => ∃ A c, e = .returned (.slice A 4 c) ∧ BL w' A 4 c [false, true, false, false] ∧ Below W.heap.size W w') from by
  refine (taken_any W (twoP w.heap.size) (hp.on hb)).mono ?_
  rintro e w' ⟨A, c, rfl, h1, h2, _⟩
  exact ⟨A, c, rfl, by rw [← two_taken w.heap.size]; exact h1, h2⟩)
 have HCalled := Hd (fun (w1 : World) (hp : PgR w1 (twoP w.heap.size)) W (hb : Below w1.heap.size w1 W) => show Calls Tryz.prog 19 #[.agg #[.slice (some ⟨w.heap.size + 16, 0, none⟩) 4 4, .slice none 0 0, .int .i64 0]] W (fun e w' => ∃ A c, e = .returned (.slice A 4 c) ∧ BL w' A 4 c [true, true, true, false] ∧ Below W.heap.size W w') from by
  refine (called_any W (twoP w.heap.size) (hp.on hb)).mono ?_
  rintro e w' ⟨A, c, rfl, h1, h2, _⟩
  exact ⟨A, c, rfl, by rw [← two_called w.heap.size]; exact h1, h2⟩)
 have HGraph := Hd (fun (w1 : World) (hp : PgR w1 (twoP w.heap.size)) W (hb : Below w1.heap.size w1 W) => show Calls Tryz.prog 22 #[.agg #[.slice (some ⟨w.heap.size + 16, 0, none⟩) 4 4, .slice none 0 0, .int .i64 0]] W (RowsA W 4 [[1, 2], [], [], []]) from by
  have := graph_any W (twoP w.heap.size) (hp.on hb); rw [two_graph w.heap.size] at this; exact this)
 have HTW := Hd (show Calls Tryz.prog 37 #[] w fun e w' => e = .returned (.agg #[.slice (some ⟨w.heap.size + 16, 0, none⟩) 4 4, .slice none 0 0, .int .i64 0]) ∧ PgR w' (twoP w.heap.size) ∧ Below w.heap.size w w' from two25_any w)
 go_enter Tryz.func10, Tryz.ntmps10
 go_wp2_with (first | (go_at_call 21; refine (same4 _ _ _ [[1, 2], [], [], []] rfl (row4 (by simp) (by simp) (by simp) (by simp)) (gr_on (gr_on HG3.out (alloc_ _ _)) (alloc_ _ _)) (litB wx3 [1, 2] (by unfold maxLen; simp))).mono ?_; rintro e ws3 ⟨rfl, hbs⟩; have hbt := to_ (to_ (alloc_ wx3 _) (alloc_ _ _)) hbs; have HS4 := Hd (to_ HX3.out hbt); have c0 := cell_on c0 hbt; have c1 := cell_on c1 hbt; have c2 := cell_on c2 hbt; clear hbs hbt) | (go_at_call 22; go_loud (refine (HGraph.out _ HP.out _ HS3.out).mono ?_; rintro e wx3 ⟨rb3, base3, rfl, ho, _, _, hbl⟩; have HG3 := Hd (gr_of (n := 4) ho rfl (by omega)); have HX3 := Hd (to_ HS3.out hbl); have c0 := cell_on c0 hbl; have c1 := cell_on c1 hbl; have c2 := cell_on c2 hbl; clear ho hbl)) | (go_at_call 14; refine (bools26_any _ _ _ 4 _ _ [true, true, true, false] (HG2.out.on (alloc_ _ _)) (bl_lit wx2 [true, true, true, false] (by simp)) (by omega)).mono ?_; rintro e ws2 ⟨rfl, hbs⟩; have hbt := to_ (alloc_ wx2 _) hbs; have HS3 := Hd (to_ HX2.out hbt); have c0 := cell_on c0 hbt; have c1 := cell_on c1 hbt; have c2 := cell_on c2 hbt; clear hbs hbt) | (go_at_call 19; go_loud (refine (HCalled.out _ HP.out _ HS2.out).mono ?_; rintro e wx2 ⟨A2, k2, rfl, ho, hbl⟩; have HG2 := Hd ho; have HX2 := Hd (to_ HS2.out hbl); have c0 := cell_on c0 hbl; have c1 := cell_on c1 hbl; have c2 := cell_on c2 hbl; clear ho hbl)) | (go_at_call 14; refine (bools26_any _ _ _ 4 _ _ [false, true, false, false] (HG1.out.on (alloc_ _ _)) (bl_lit wx1 [false, true, false, false] (by simp)) (by omega)).mono ?_; rintro e ws1 ⟨rfl, hbs⟩; have hbt := to_ (alloc_ wx1 _) hbs; have HS2 := Hd (to_ HX1.out hbt); have c0 := cell_on c0 hbt; have c1 := cell_on c1 hbt; have c2 := cell_on c2 hbt; clear hbs hbt) | (go_at_call 17; go_loud (refine (HTaken.out _ HP.out _ HS1.out).mono ?_; rintro e wx1 ⟨A1, k1, rfl, ho, hbl⟩; have HG1 := Hd ho; have HX1 := Hd (to_ HS1.out hbl); have c0 := cell_on c0 hbl; have c1 := cell_on c1 hbl; have c2 := cell_on c2 hbl; clear ho hbl)) | (go_at_call 14; refine (bools26_any _ _ _ 4 _ _ [true, true, true, false] (HG0.out.on (alloc_ _ _)) (bl_lit wx0 [true, true, true, false] (by simp)) (by omega)).mono ?_; rintro e ws0 ⟨rfl, hbs⟩; have hbt := to_ (alloc_ wx0 _) hbs; have HS1 := Hd (to_ HX0.out hbt); have c0 := cell_on c0 hbt; have c1 := cell_on c1 hbt; have c2 := cell_on c2 hbt; clear hbs hbt) | (go_at_call 15; go_loud (refine (HLive.out _ HP.out _ HS0.out).mono ?_; rintro e wx0 ⟨A0, k0, rfl, ho, hbl⟩; have HG0 := Hd ho; have HX0 := Hd (to_ HS0.out hbl); have c0 := cell_on HC0.out hbl; have c1 := cell_on HC1.out hbl; have c2 := cell_on HC2.out hbl; clear ho hbl)) | (go_at_call 37; go_loud (refine HTW.out.mono ?_; rintro e w1 ⟨rfl, hp, hb1⟩; have HP := Hd hp; have HB1 := Hd hb1; have HS0 := Hd (alloc_ w1 (.cells #[.slice (some ⟨w.heap.size + 16, 0, none⟩) 4 4, .slice none 0 0, .int .i64 0] 29)); have HC0 := Hd (show (w1.alloc (.cells #[.slice (some ⟨w.heap.size + 16, 0, none⟩) 4 4, .slice none 0 0, .int .i64 0] 29)).cell? ⟨w1.heap.size, 0, none⟩ = some (.slice (some ⟨w.heap.size + 16, 0, none⟩) 4 4) from (Blk.new w1 29 #[.slice (some ⟨w.heap.size + 16, 0, none⟩) 4 4, .slice none 0 0, .int .i64 0]).cell 0); have HC1 := Hd (show (w1.alloc (.cells #[.slice (some ⟨w.heap.size + 16, 0, none⟩) 4 4, .slice none 0 0, .int .i64 0] 29)).cell? ⟨w1.heap.size, 1, none⟩ = some (.slice none 0 0) from (Blk.new w1 29 #[.slice (some ⟨w.heap.size + 16, 0, none⟩) 4 4, .slice none 0 0, .int .i64 0]).cell 1); have HC2 := Hd (show (w1.alloc (.cells #[.slice (some ⟨w.heap.size + 16, 0, none⟩) 4 4, .slice none 0 0, .int .i64 0] 29)).cell? ⟨w1.heap.size, 2, none⟩ = some (.int .i64 0) from (Blk.new w1 29 #[.slice (some ⟨w.heap.size + 16, 0, none⟩) 4 4, .slice none 0 0, .int .i64 0]).cell 2); clear hp hb1)))
 go_ret
 exact ⟨rfl, to_ HB1.out HS4.out⟩
end Go.Proofs.YtdaimeaofgbfpaaGreat.Bo
