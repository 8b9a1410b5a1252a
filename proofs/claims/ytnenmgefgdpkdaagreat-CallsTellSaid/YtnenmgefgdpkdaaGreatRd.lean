/-
 WALK of layer 25's law: known.
-/
import Derived.Test.YtnenmgefgdpkdaaGreatZa
import Derived.Test.YtnenmgefgdpkdaaGreatRc
import Derived.Test.YtnenmgefgdpkdaaGreatRb
namespace Go.Proofs.YtnenmgefgdpkdaaGreat.Bo
open Go.RowKit Go.Maps
open Mem Rf
set_option linter.unusedSimpArgs false
set_option linter.unusedVariables false
theorem sl_lit {W : World} {b : Nat} {l : List Int} (h : Blk W b 3 (By.ints l).toArray) (hl : l.length ≤ maxLen) : SlV W W.heap.size (.slice (some ⟨b, 0, none⟩) l.length l.length) (By.ints l) := by
 have e : (By.ints l).length = l.length := by simp [By.ints]
 rw [← e] at hl ⊢
 exact .at_ _ _ _ (Nat.le_refl _) hl fun j u hu => ⟨h.lt, by rw [add_plain, Nat.zero_add, h.cell, List.getElem?_toArray]; exact hu⟩
theorem gr_lit {W : World} {g : Nat} {rs : List Value} {L : List (List Int)} (h : Blk W g 42 rs.toArray) (hl : rs.length = L.length) (hm : L.length ≤ maxLen)
  (hr : ∀ (i : Nat) rv, rs[i]? = some rv → ∃ A c, rv = .slice A (By.rowOf L i).length c ∧ SlV W W.heap.size rv (By.ints (By.rowOf L i))) : By.Gr W W.heap.size (.slice (some ⟨g, 0, none⟩) L.length L.length) L := by
 refine ⟨rs, ?_, hl, hr⟩
 rw [← hl] at hm ⊢
 exact .at_ _ _ _ (Nat.le_refl _) hm fun j u hu => ⟨h.lt, by rw [add_plain, Nat.zero_add, h.cell, List.getElem?_toArray]; exact hu⟩
theorem litA (W : World) (x y : List Int) (hx : x.length ≤ maxLen) (hy : y.length ≤ maxLen) : let W3 := ((W.alloc (.cells (By.ints x).toArray 3)).alloc (.cells (By.ints y).toArray 3)).alloc (.cells #[.slice (some ⟨W.heap.size, 0, none⟩) x.length x.length, .slice none 0 0, .slice none 0 0, .slice (some ⟨W.heap.size + 1, 0, none⟩) y.length y.length] 42)
  By.Gr W3 W3.heap.size (.slice (some ⟨W.heap.size + 2, 0, none⟩) 4 4) [x, [], [], y] := by
 intro W3
 have b1 : Blk W3 W.heap.size 3 (By.ints x).toArray := ((Blk.new _ _ _).alloc _).alloc _
 have b2 : Blk W3 (W.heap.size + 1) 3 (By.ints y).toArray := (By.Blk.at_ _ _ (by simp only [World.size_alloc])).alloc _
 refine gr_lit (rs := [.slice (some ⟨W.heap.size, 0, none⟩) x.length x.length, .slice none 0 0, .slice none 0 0, .slice (some ⟨W.heap.size + 1, 0, none⟩) y.length y.length]) (L := [x, [], [], y]) (By.Blk.at_ _ _ (by simp only [World.size_alloc])) rfl (by unfold maxLen; simp) (fun i rv hi => ?_)
 rcases i with _ | _ | _ | _ | i
 ·injection hi with hi; subst hi; exact ⟨_, _, rfl, sl_lit b1 hx⟩
 ·injection hi with hi; subst hi; exact ⟨none, 0, rfl, .nil⟩
 ·injection hi with hi; subst hi; exact ⟨none, 0, rfl, .nil⟩
 ·injection hi with hi; subst hi; exact ⟨_, _, rfl, sl_lit b2 hy⟩
 ·simp at hi
theorem litB (W : World) (x : List Int) (hx : x.length ≤ maxLen) : let W3 := (W.alloc (.cells (By.ints x).toArray 3)).alloc (.cells #[.slice (some ⟨W.heap.size, 0, none⟩) x.length x.length, .slice none 0 0, .slice none 0 0, .slice none 0 0] 42)
  By.Gr W3 W3.heap.size (.slice (some ⟨W.heap.size + 1, 0, none⟩) 4 4) [x, [], [], []] := by
 intro W3
 have b1 : Blk W3 W.heap.size 3 (By.ints x).toArray := (Blk.new _ _ _).alloc _
 refine gr_lit (rs := [.slice (some ⟨W.heap.size, 0, none⟩) x.length x.length, .slice none 0 0, .slice none 0 0, .slice none 0 0]) (L := [x, [], [], []]) (By.Blk.at_ _ _ (by simp only [World.size_alloc])) rfl (by unfold maxLen; simp) (fun i rv hi => ?_)
 rcases i with _ | _ | _ | _ | i
 ·injection hi with hi; subst hi; exact ⟨_, _, rfl, sl_lit b1 hx⟩
 ·injection hi with hi; subst hi; exact ⟨none, 0, rfl, .nil⟩
 ·injection hi with hi; subst hi; exact ⟨none, 0, rfl, .nil⟩
 ·injection hi with hi; subst hi; exact ⟨none, 0, rfl, .nil⟩
 ·simp at hi
theorem litC (W : World) : let W3 := W.alloc (.cells #[.slice none 0 0, .slice none 0 0, .slice none 0 0, .slice none 0 0] 42)
  By.Gr W3 W3.heap.size (.slice (some ⟨W.heap.size, 0, none⟩) 4 4) [[], [], [], []] := by
 intro W3
 refine gr_lit (rs := [.slice none 0 0, .slice none 0 0, .slice none 0 0, .slice none 0 0]) (L := [[], [], [], []]) (Blk.new _ _ _) rfl (by unfold maxLen; simp) (fun i rv hi => ?_)
 rcases i with _ | _ | _ | _ | i
 ·injection hi with hi; subst hi; exact ⟨none, 0, rfl, .nil⟩
 ·injection hi with hi; subst hi; exact ⟨none, 0, rfl, .nil⟩
 ·injection hi with hi; subst hi; exact ⟨none, 0, rfl, .nil⟩
 ·injection hi with hi; subst hi; exact ⟨none, 0, rfl, .nil⟩
 ·simp at hi
theorem two_direct (N : Nat) : (List.range 4).map (directL (twoP N)) = [[2], [], [], [3]] := by kernel_rfl
theorem two_values (N : Nat) : (List.range 4).map (valuesL (twoP N)) = [[1], [], [], []] := by kernel_rfl
theorem two_refers (N : Nat) : (List.range 4).map (refersL (twoP N)) = [[1, 2], [], [], [3]] := by kernel_rfl
theorem two_vias (N : Nat) : (List.range 4).map (viasL (twoP N)) = [[0], [], [], []] := by kernel_rfl
theorem two_datas (N : Nat) : (List.range 4).map (datasL (twoP N)) = [[], [], [], []] := by kernel_rfl
/-- Same of two that read as one list. -/
theorem same4 (W : World) (A A2 : Option Addr) (L : List (List Int)) (hl : L.length = 4) (hr : ∀ i, (By.rowOf L i).length ≤ 100000) (h : By.Gr W W.heap.size (.slice A 4 4) L) (h2 : By.Gr W W.heap.size (.slice A2 4 4) L) :
  Calls Tryz.prog 16 #[.slice A 4 4, .slice A2 4 4] W fun e w' => e = .returned (.bool true) ∧ Below W.heap.size W w' := same10_any W A A2 4 4 4 L hl (by omega) hr h h2
theorem row4 {a b c d : List Int} (ha : a.length ≤ 100) (hb : b.length ≤ 100) (hc : c.length ≤ 100) (hd : d.length ≤ 100) (i : Nat) : (By.rowOf [a, b, c, d] i).length ≤ 100000 := by
 rcases i with _ | _ | _ | _ | i
 ·show a.length ≤ _; omega
 ·show b.length ≤ _; omega
 ·show c.length ≤ _; omega
 ·show d.length ≤ _; omega
 ·simp [By.rowOf]
set_option maxRecDepth 100000 in
set_option maxHeartbeats 8000000 in
theorem known25_any (w : World) : Calls Tryz.prog 12 #[] w fun e w' => e = .returned (.bool true) ∧ Below w.heap.size w w' := by
 have HTW := Lib.hid (two25_any w)
 have HDI := Lib.hid (fun (w1 : World) (hp : PgR w1 (twoP w.heap.size)) W (hb : Below w1.heap.size w1 W) => show Calls Tryz.prog 17 #[.agg #[.slice (some ⟨w.heap.size + 16, 0, none⟩) 4 4, .slice none 0 0, .int .i64 0]] W (RowsA W 4 [[2], [], [], [3]]) from by
  have := direct_tells W (twoP w.heap.size) (hp.on hb); rw [← two_direct w.heap.size]; exact this)
 have HVA := Lib.hid (fun (w1 : World) (hp : PgR w1 (twoP w.heap.size)) W (hb : Below w1.heap.size w1 W) => show Calls Tryz.prog 19 #[.agg #[.slice (some ⟨w.heap.size + 16, 0, none⟩) 4 4, .slice none 0 0, .int .i64 0]] W (RowsA W 4 [[1], [], [], []]) from by
  have := values_tells W (twoP w.heap.size) (hp.on hb); rw [← two_values w.heap.size]; exact this)
 have HRE := Lib.hid (fun (w1 : World) (hp : PgR w1 (twoP w.heap.size)) W (hb : Below w1.heap.size w1 W) => show Calls Tryz.prog 20 #[.agg #[.slice (some ⟨w.heap.size + 16, 0, none⟩) 4 4, .slice none 0 0, .int .i64 0]] W (RowsA W 4 [[1, 2], [], [], [3]]) from by
  have := refers_tells W (twoP w.heap.size) (hp.on hb); rw [← two_refers w.heap.size]; exact this)
 have HVI := Lib.hid (fun (w1 : World) (hp : PgR w1 (twoP w.heap.size)) W (hb : Below w1.heap.size w1 W) => show Calls Tryz.prog 21 #[.agg #[.slice (some ⟨w.heap.size + 16, 0, none⟩) 4 4, .slice none 0 0, .int .i64 0]] W (RowsA W 4 [[0], [], [], []]) from by
  have := vias_tells W (twoP w.heap.size) (hp.on hb); rw [← two_vias w.heap.size]; exact this)
 have HDA := Lib.hid (fun (w1 : World) (hp : PgR w1 (twoP w.heap.size)) W (hb : Below w1.heap.size w1 W) => show Calls Tryz.prog 22 #[.agg #[.slice (some ⟨w.heap.size + 16, 0, none⟩) 4 4, .slice none 0 0, .int .i64 0]] W (RowsA W 4 [[], [], [], []]) from by
  have := datas_tells W (twoP w.heap.size) (hp.on hb); rw [← two_datas w.heap.size]; exact this)
 have HTW := Lib.hid (show Calls Tryz.prog 46 #[] w fun e w' => e = .returned (.agg #[.slice (some ⟨w.heap.size + 16, 0, none⟩) 4 4, .slice none 0 0, .int .i64 0]) ∧ PgR w' (twoP w.heap.size) ∧ Below w.heap.size w w' from HTW.out)
 go_enter Tryz.func12, Tryz.ntmps12
 go_wp2_with (first | (go_at_call 16; refine (same4 _ _ _ [[], [], [], []] rfl (row4 (by simp) (by simp) (by simp) (by simp)) (gr_on HG4.out (alloc_ _ _)) (litC wx4)).mono ?_; rintro e ws4 ⟨rfl, hbs⟩; have hbt := to_ (alloc_ wx4 _) hbs; have HS5 := Lib.hid (to_ HX4.out hbt); have c0 := cell_on c0 hbt; have c1 := cell_on c1 hbt; have c2 := cell_on c2 hbt; clear hbs hbt) | (go_at_call 22; go_loud (refine (HDA.out _ HP.out _ HS4.out).mono ?_; rintro e wx4 ⟨rb4, base4, rfl, ho, _, _, hbl⟩; have HG4 := Lib.hid (gr_of (n := 4) ho rfl (by omega)); have HX4 := Lib.hid (to_ HS4.out hbl); have c0 := cell_on c0 hbl; have c1 := cell_on c1 hbl; have c2 := cell_on c2 hbl; clear ho hbl)) | (go_at_call 16; refine (same4 _ _ _ [[0], [], [], []] rfl (row4 (by simp) (by simp) (by simp) (by simp)) (gr_on (gr_on HG3.out (alloc_ _ _)) (alloc_ _ _)) (litB wx3 [0] (by unfold maxLen; simp))).mono ?_; rintro e ws3 ⟨rfl, hbs⟩; have hbt := to_ (to_ (alloc_ wx3 _) (alloc_ _ _)) hbs; have HS4 := Lib.hid (to_ HX3.out hbt); have c0 := cell_on c0 hbt; have c1 := cell_on c1 hbt; have c2 := cell_on c2 hbt; clear hbs hbt) | (go_at_call 21; go_loud (refine (HVI.out _ HP.out _ HS3.out).mono ?_; rintro e wx3 ⟨rb3, base3, rfl, ho, _, _, hbl⟩; have HG3 := Lib.hid (gr_of (n := 4) ho rfl (by omega)); have HX3 := Lib.hid (to_ HS3.out hbl); have c0 := cell_on c0 hbl; have c1 := cell_on c1 hbl; have c2 := cell_on c2 hbl; clear ho hbl)) | (go_at_call 16; refine (same4 _ _ _ [[1, 2], [], [], [3]] rfl (row4 (by simp) (by simp) (by simp) (by simp)) (gr_on (gr_on (gr_on HG2.out (alloc_ _ _)) (alloc_ _ _)) (alloc_ _ _)) (litA wx2 [1, 2] [3] (by unfold maxLen; simp) (by unfold maxLen; simp))).mono ?_; rintro e ws2 ⟨rfl, hbs⟩; have hbt := to_ (to_ (to_ (alloc_ wx2 _) (alloc_ _ _)) (alloc_ _ _)) hbs; have HS3 := Lib.hid (to_ HX2.out hbt); have c0 := cell_on c0 hbt; have c1 := cell_on c1 hbt; have c2 := cell_on c2 hbt; clear hbs hbt) | (go_at_call 20; go_loud (refine (HRE.out _ HP.out _ HS2.out).mono ?_; rintro e wx2 ⟨rb2, base2, rfl, ho, _, _, hbl⟩; have HG2 := Lib.hid (gr_of (n := 4) ho rfl (by omega)); have HX2 := Lib.hid (to_ HS2.out hbl); have c0 := cell_on c0 hbl; have c1 := cell_on c1 hbl; have c2 := cell_on c2 hbl; clear ho hbl)) | (go_at_call 16; refine (same4 _ _ _ [[1], [], [], []] rfl (row4 (by simp) (by simp) (by simp) (by simp)) (gr_on (gr_on HG1.out (alloc_ _ _)) (alloc_ _ _)) (litB wx1 [1] (by unfold maxLen; simp))).mono ?_; rintro e ws1 ⟨rfl, hbs⟩; have hbt := to_ (to_ (alloc_ wx1 _) (alloc_ _ _)) hbs; have HS2 := Lib.hid (to_ HX1.out hbt); have c0 := cell_on c0 hbt; have c1 := cell_on c1 hbt; have c2 := cell_on c2 hbt; clear hbs hbt) | (go_at_call 19; go_loud (refine (HVA.out _ HP.out _ HS1.out).mono ?_; rintro e wx1 ⟨rb1, base1, rfl, ho, _, _, hbl⟩; have HG1 := Lib.hid (gr_of (n := 4) ho rfl (by omega)); have HX1 := Lib.hid (to_ HS1.out hbl); have c0 := cell_on c0 hbl; have c1 := cell_on c1 hbl; have c2 := cell_on c2 hbl; clear ho hbl)) | (go_at_call 16; refine (same4 _ _ _ [[2], [], [], [3]] rfl (row4 (by simp) (by simp) (by simp) (by simp)) (gr_on (gr_on (gr_on HG0.out (alloc_ _ _)) (alloc_ _ _)) (alloc_ _ _)) (litA wx0 [2] [3] (by unfold maxLen; simp) (by unfold maxLen; simp))).mono ?_; rintro e ws0 ⟨rfl, hbs⟩; have hbt := to_ (to_ (to_ (alloc_ wx0 _) (alloc_ _ _)) (alloc_ _ _)) hbs; have HS1 := Lib.hid (to_ HX0.out hbt); have c0 := cell_on c0 hbt; have c1 := cell_on c1 hbt; have c2 := cell_on c2 hbt; clear hbs hbt) | (go_at_call 17; go_loud (refine (HDI.out _ HP.out _ HS0.out).mono ?_; rintro e wx0 ⟨rb0, base0, rfl, ho, _, _, hbl⟩; have HG0 := Lib.hid (gr_of (n := 4) ho rfl (by omega)); have HX0 := Lib.hid (to_ HS0.out hbl); have c0 := cell_on HC0.out hbl; have c1 := cell_on HC1.out hbl; have c2 := cell_on HC2.out hbl; clear ho hbl)) | (go_at_call 46; go_loud (refine HTW.out.mono ?_; rintro e w1 ⟨rfl, hp, hb1⟩; have HP := Lib.hid hp; have HB1 := Lib.hid hb1; have HS0 := Lib.hid (alloc_ w1 (.cells #[.slice (some ⟨w.heap.size + 16, 0, none⟩) 4 4, .slice none 0 0, .int .i64 0] 29)); have HC0 := Lib.hid (show (w1.alloc (.cells #[.slice (some ⟨w.heap.size + 16, 0, none⟩) 4 4, .slice none 0 0, .int .i64 0] 29)).cell? ⟨w1.heap.size, 0, none⟩ = some (.slice (some ⟨w.heap.size + 16, 0, none⟩) 4 4) from (Blk.new w1 29 #[.slice (some ⟨w.heap.size + 16, 0, none⟩) 4 4, .slice none 0 0, .int .i64 0]).cell 0); have HC1 := Lib.hid (show (w1.alloc (.cells #[.slice (some ⟨w.heap.size + 16, 0, none⟩) 4 4, .slice none 0 0, .int .i64 0] 29)).cell? ⟨w1.heap.size, 1, none⟩ = some (.slice none 0 0) from (Blk.new w1 29 #[.slice (some ⟨w.heap.size + 16, 0, none⟩) 4 4, .slice none 0 0, .int .i64 0]).cell 1); have HC2 := Lib.hid (show (w1.alloc (.cells #[.slice (some ⟨w.heap.size + 16, 0, none⟩) 4 4, .slice none 0 0, .int .i64 0] 29)).cell? ⟨w1.heap.size, 2, none⟩ = some (.int .i64 0) from (Blk.new w1 29 #[.slice (some ⟨w.heap.size + 16, 0, none⟩) 4 4, .slice none 0 0, .int .i64 0]).cell 2); clear hp hb1)))
 go_ret
 exact ⟨rfl, to_ HB1.out HS5.out⟩
end Go.Proofs.YtnenmgefgdpkdaaGreat.Bo
