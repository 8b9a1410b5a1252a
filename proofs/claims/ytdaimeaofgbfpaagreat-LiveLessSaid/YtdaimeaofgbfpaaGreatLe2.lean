/-
 Le2
-/
import Derived.Test.YtdaimeaofgbfpaaGreatZa2
import Derived.Test.YtdaimeaofgbfpaaGreatLd2
import Derived.Maps.OwnIn
set_option linter.unusedSimpArgs false
set_option linter.unusedVariables false
namespace Go.Proofs.YtdaimeaofgbfpaaGreat.Bo
open Go.RowKit Go.Maps
open Mem Rf By
attribute [local go_sem] Oper.semAt_some
def clV (P : Pgm) (a : Nat) : Int := (gfAt P.fs a).F.cl
def acC (cl : Nat → Int) (pre : List Nat) : List (List Int) := (List.range 8).map fun (c : Nat) => (pre.filter fun a => decide (cl a = (c : Int))).map fun (a : Nat) => (a : Int)
theorem acC_len (cl : Nat → Int) (pre : List Nat) : (acC cl pre).length = 8 := by unfold acC; simp
theorem acC_nil (cl : Nat → Int) : acC cl [] = List.replicate 8 [] := by unfold acC; rfl
theorem acC_row {cl : Nat → Int} {pre : List Nat} {c : Nat} (hc : c < 8) : rowOf (acC cl pre) c = (pre.filter fun a => decide (cl a = (c : Int))).map fun (a : Nat) => (a : Int) := by
 unfold rowOf acC
 rw [List.getD_eq_getElem?_getD, List.getElem?_map, List.getElem?_range hc]; rfl
theorem acC_row_len {cl : Nat → Int} {pre : List Nat} {c : Nat} (hc : c < 8) : (rowOf (acC cl pre) c).length ≤ pre.length := by
 rw [acC_row hc, List.length_map]; exact List.length_filter_le _ _
theorem acC_skip {cl : Nat → Int} {pre : List Nat} {x : Nat} (h : cl x < 0 ∨ 8 ≤ cl x) : acC cl (pre ++ [x]) = acC cl pre := by
 unfold acC
 refine List.map_congr_left fun c hc => ?_
 have hc := List.mem_range.1 hc
 rw [List.filter_append, List.map_append]
 have : ¬ cl x = (c : Int) := by omega
 simp [this]
theorem acC_put {cl : Nat → Int} {pre : List Nat} {x c : Nat} (hc : c < 8) (h : cl x = (c : Int)) : acC cl (pre ++ [x]) = (acC cl pre).set c (rowOf (acC cl pre) c ++ [(x : Int)]) := by
 apply List.ext_getElem?
 intro i
 rw [List.getElem?_set, acC_len, acC_row hc]
 unfold acC
 by_cases hi : i < 8
 ·rw [List.getElem?_map, List.getElem?_map, List.getElem?_range hi]
  by_cases e : c = i
  ·subst e
   simp [List.filter_append, h, hc]
  ·have e2 : ¬ (c : Int) = (i : Int) := by omega
   simp [List.filter_append, h, e, e2]
 ·have e : ¬ c = i := by omega
  rw [if_neg e, List.getElem?_eq_none (by simp; omega), List.getElem?_eq_none (by simp; omega)]
theorem marks_len {f : Nat → Bool} {n : Nat} : (marks f n).length ≤ n := by
 unfold marks; exact Nat.le_trans (List.length_filter_le _ _) (by simp)
def TcA (w : World) (L : List (List Int)) (e : Ending) (w' : World) : Prop := ∃ sl : Nat → Option Addr × Nat, e = .returned (.agg #[.slice (sl 0).1 (rowOf L 0).length (sl 0).2, .slice (sl 1).1 (rowOf L 1).length (sl 1).2, .slice (sl 2).1 (rowOf L 2).length (sl 2).2, .slice (sl 3).1 (rowOf L 3).length (sl 3).2, .slice (sl 4).1 (rowOf L 4).length (sl 4).2, .slice (sl 5).1 (rowOf L 5).length (sl 5).2, .slice (sl 6).1 (rowOf L 6).length (sl 6).2, .slice (sl 7).1 (rowOf L 7).length (sl 7).2]) ∧ (∀ c, c < 8 → IL w' (sl c).1 (rowOf L c).length (sl c).2 (rowOf L c)) ∧ Below w.heap.size w w' ∧ ∀ c ad, c < 8 → (sl c).1 = some ad → w.heap.size ≤ ad.block
def tcG (P : Pgm) : List (List Int) := acC (clV P) (marks (takenB P) P.fn)
set_option maxRecDepth 100000 in
set_option maxHeartbeats 8000000 in
theorem tbc_any (w : World) (P : Pgm) (h : PgR w P) : Calls Tryz.prog 52 #[pgV P] w (TcA w (tcG P)) := by
 obtain ⟨i0, hi, hz0, hz1, hz2⟩ := info_parts infoI
 have HTK := Hd (fun W (hb : Below w.heap.size w W) => taken_any W P (h.on hb))
 have HCL := Hd (fun W (hb : Below w.heap.size w W) a (ha : a < P.fn) => (show ∃ ad, P.fA = some ad ∧ W.cell? ⟨(ad.add (a * 13)).block, (ad.add (a * 13)).off + 3, none⟩ = some (.int .i64 (clV P a)) from by
  obtain ⟨ad, e, _, _, hc⟩ := gf_at (h.fr.below hb) ha
  exact ⟨ad, e, hc 2 _ rfl⟩))
 have hfn := h.few.1
 have HG9 : Hid (acC (clV P) (marks (takenB P) P.fn) = tcG P) := Hd rfl
 clear h
 obtain ⟨G9, hG9⟩ : ∃ x, tcG P = x := ⟨_, rfl⟩
 rw [hG9] at HG9 ⊢
 obtain ⟨f, hf⟩ : ∃ f, takenB P = f := ⟨_, rfl⟩
 rw [hf] at HTK HG9
 obtain ⟨cl, hcl9⟩ : ∃ cl, clV P = cl := ⟨_, rfl⟩
 rw [hcl9] at HCL HG9
 clear hf hG9 hcl9
 obtain ⟨fA, fn, fc, fs, dA, dn, dc, ds, en, cs⟩ := P
 unfold pgV at HTK ⊢
 dsimp only at HTK HCL HG9 hfn ⊢
 obtain ⟨W0, hW0⟩ : ∃ W0, ((w.alloc (.cells #[.slice fA fn fc, .slice dA dn dc, .int .i64 en] 29)).alloc (.cells #[.slice none 0 0, .slice none 0 0, .slice none 0 0, .slice none 0 0, .slice none 0 0, .slice none 0 0, .slice none 0 0, .slice none 0 0] 93)).alloc (.cells #[.slice none 0 0, .slice none 0 0, .slice none 0 0, .slice none 0 0, .slice none 0 0, .slice none 0 0, .slice none 0 0, .slice none 0 0] 93) = W0 := ⟨_, rfl⟩
 have HB0 := Hd (show Below w.heap.size w W0 from by rw [← hW0]; exact to_ (alloc_ _ _) (to_ (alloc_ _ _) (alloc_ _ _)))
 have HS0 := Hd (show W0.heap.size = w.heap.size + 3 from by rw [← hW0]; simp)
 have HPB := Hd (show Blk W0 w.heap.size 29 #[.slice fA fn fc, .slice dA dn dc, .int .i64 en] from by rw [← hW0]; exact ((Blk.new _ _ _).alloc _).alloc _)
 have HZ1 : Hid (Blk W0 (w.heap.size + 1) 93 #[.slice none 0 0, .slice none 0 0, .slice none 0 0, .slice none 0 0, .slice none 0 0, .slice none 0 0, .slice none 0 0, .slice none 0 0]) := Hd (by
  rw [← hW0]
  have := (Blk.new (w.alloc (.cells #[.slice fA fn fc, .slice dA dn dc, .int .i64 en] 29)) 93 #[.slice none 0 0, .slice none 0 0, .slice none 0 0, .slice none 0 0, .slice none 0 0, .slice none 0 0, .slice none 0 0, .slice none 0 0]).alloc (.cells #[.slice none 0 0, .slice none 0 0, .slice none 0 0, .slice none 0 0, .slice none 0 0, .slice none 0 0, .slice none 0 0, .slice none 0 0] 93)
  rwa [World.size_alloc] at this)
 have HZ2 : Hid (Blk W0 (w.heap.size + 1 + 1) 93 #[.slice none 0 0, .slice none 0 0, .slice none 0 0, .slice none 0 0, .slice none 0 0, .slice none 0 0, .slice none 0 0, .slice none 0 0]) := Hd (by
  rw [← hW0]
  have := Blk.new ((w.alloc (.cells #[.slice fA fn fc, .slice dA dn dc, .int .i64 en] 29)).alloc (.cells #[.slice none 0 0, .slice none 0 0, .slice none 0 0, .slice none 0 0, .slice none 0 0, .slice none 0 0, .slice none 0 0, .slice none 0 0] 93)) 93 #[.slice none 0 0, .slice none 0 0, .slice none 0 0, .slice none 0 0, .slice none 0 0, .slice none 0 0, .slice none 0 0, .slice none 0 0]
  rwa [World.size_alloc, World.size_alloc] at this)
 obtain ⟨x0, x1, x2⟩ := q3Z HPB.out
 refine (callsIn_wide (n := 4)).1 ?_
 refine callsIn_of_wp_marks Tryz.func52 rfl trivial ?_ rfl
 simp only [Tryz.ntmps52, List.size_toArray, List.length_cons, List.length_nil, Nat.reduceAdd, Nat.reduceSub, Array.replicate_succ, Array.replicate_zero, List.push_toArray, List.append_toArray, List.nil_append, List.cons_append]
 gi_wp2_with (first
  | (refine ⟨trivial, ?_⟩; gi_at_call 17; refine (callsIn_wide.2 (HTK.out W0 HB0.out)).mono ?_; rintro e w2 ⟨A2, c2, rfl, hbl, hb2, hlo⟩; have HBL := Hd hbl; have HB2 := Hd hb2; have HLO := Hd hlo; clear hbl hb2 hlo x0 x1 x2 hW0)
  | (refine ⟨trivial, ?_⟩; gi_at_call 48; refine (callsIn_wide.2 (marked_it w2 A2 fn c2)).mono ?_; rintro e w3 ⟨rfl, hw3⟩; have HW3 := Hd hw3; clear hw3))
 have hs0 := HS0.out
 have hs2 := HB2.out.size
 have HS3 := Hd (show w3.heap.size = w2.heap.size + 1 from by rw [HW3.out]; simp)
 have hs3 := HS3.out
 have HB3 := Hd (show Below w2.heap.size w2 w3 from by rw [HW3.out]; exact alloc_ _ _)
 have HMB := Hd (show Blk w3 w2.heap.size 38 #[.slice A2 fn c2] from by rw [HW3.out]; exact Blk.new _ _ _)
 have HB03 := Hd (show Below W0.heap.size W0 w3 from to_ HB2.out HB3.out)
 have HSS := Hd (show W0.heap.size = w.heap.size + 3 ∧ W0.heap.size ≤ w2.heap.size ∧ w3.heap.size = w2.heap.size + 1 from ⟨hs0, hs2, hs3⟩)
 refine wpIn_rangeX rfl (by decide) (gf := 92) (lb := #[.pointer (some ⟨w2.heap.size, 0, none⟩)]) rfl trivial (enters_of Tryz.func92 (by kernel_rfl) rfl)
  (marked_tells 3 w2.heap.size w2.heap.size A2 fn c2 f (by omega) (fun k => W0.heap.size ≤ k ∧ k < w3.heap.size) (by omega) (fun hz ad e => ⟨HLO.out ad e, by obtain ⟨ad', e', hb', _⟩ := HBL.out.at_ hz; rw [e] at e'; cases e'; omega⟩) w3 (fun k hk => hk.2) (HMB.out.cell 0) (HBL.out.below HB3.out) (by omega))
  (Below.refl _ _) (fun _ => rfl)
  (fun k => ¬ Two w3.heap.size k) (fun k h h' => h' h) (fun k h => trivial) (fun k h => trivial) (by omega)
  (fun pre X => OwnG X (w.heap.size + 1 + 1) (w3.heap.size + 2) 93 3 (acC cl pre) ∧ Keeps (fun k => k < w3.heap.size ∧ k ≠ w.heap.size + 1 + 1) w3 X)
  (fun _ _ _ => False)
  (fun pre X Y ⟨h2, h3⟩ hk => ⟨h2.keep fun k hk1 hk2 => hk.block k (by unfold Two; omega) hk2, h3.trans (hk.mono fun k hk1 _ => by unfold Two; omega)⟩)
  (fun _ _ _ _ h _ _ => h)
  ⟨by rw [acC_nil]; exact OwnG.start _ _ _ (HZ2.out.below HB03.out HZ2.out.lt), Keeps.refl _ _⟩
  (fun x X => { tmps := #[.agg #[.slice fA fn fc, .slice dA dn dc, .int .i64 en], .pointer (some ⟨w.heap.size, 0, none⟩), .pointer (some ⟨w.heap.size + 1, 0, none⟩), .pointer (some ⟨w.heap.size + 1 + 1, 0, none⟩), .int .i64 (x : Int), undef, .agg #[.slice fA fn fc, .slice dA dn dc, .int .i64 en], .slice A2 fn c2, .func (.func 92) #[] #[.pointer (some ⟨w2.heap.size, 0, none⟩)], .int .i64 (x : Int), undef, undef, undef, undef, undef, undef, undef, undef, undef, undef, undef, undef, undef, undef, undef, undef, undef, undef, undef, undef, undef, undef], defers := [] })
  (fun x X => X)
  (fun x X => Keeps.refl _ X) ?assign ?body ?done ?stop
 case assign =>
  intro l1 x X K hK
  clear hs0 hs2 hs3
  unfold itE
  gi_wp2
  exact hK
 case body =>
  rintro l1 pre x V0 X ⟨hown, hk9⟩ hpre hsz2 hk hcl
  have hxm := (marks_of hpre).1
  have hpl : pre.length < 24 := by
   have h1 := hpre.length_le
   have h2 := marks_len (f := f) (n := fn)
   rw [List.length_append, List.length_singleton] at h1; omega
  have hx0 : (0 : Int) ≤ (x : Int) := by omega
  have hxI : (x : Int) < (fn : Int) := by omega
  have hpx : Blk w3 w.heap.size 29 #[.slice fA fn fc, .slice dA dn dc, .int .i64 en] := HPB.out.below HB03.out HPB.out.lt
  have c0 : X.cell? ⟨w.heap.size, 0, none⟩ = some (.slice fA fn fc) := hk9.cell (by show w.heap.size < w3.heap.size ∧ w.heap.size ≠ w.heap.size + 1 + 1; omega) (hpx.cell 0)
  have HBX := Hd (show Below w.heap.size w X from (to_ HB0.out HB03.out).trans (hk9.below (by omega) (fun k hk => ⟨by omega, by omega⟩)))
  obtain ⟨ad, hA, c3⟩ := HCL.out X HBX.out x hxm
  subst hA
  have HK9 := Hd hk9
  have HOW := Hd hown
  have HPUT := Hd (fun c => @acC_put cl pre x c)
  have HSKI := Hd (@acC_skip cl pre x)
  obtain ⟨z, hz⟩ : ∃ z, cl x = z := ⟨_, rfl⟩
  rw [hz] at c3 HPUT HSKI
  have HSX := Hd (show w3.heap.size + 2 ≤ X.heap.size from Nat.le_trans hsz2 hk.size)
  clear hk9 hown hpre hk hcl hpx hz hs0 hs2 hs3
  have hbk := HSS.out
  by_cases hz0' : z < 0
  ·have hn1 : ¬ (0 : Int) ≤ z := by omega
   have HT := Hd (HSKI.out (.inl hz0'))
   clear hbk
   gi_wp2
   exact ⟨Keeps.refl _ _, by rw [HT.out]; exact HOW.out, HK9.out⟩
  ·have hn1 : (0 : Int) ≤ z := by omega
   by_cases hz8 : 8 ≤ z
   ·have hn2 : ¬ z < (8 : Int) := by omega
    have HT := Hd (HSKI.out (.inr hz8))
    clear hbk
    gi_wp2
    exact ⟨Keeps.refl _ _, by rw [HT.out]; exact HOW.out, HK9.out⟩
   ·obtain ⟨c, rfl⟩ := Int.eq_ofNat_of_zero_le hn1
    have hn2 : (c : Int) < (8 : Int) := by omega
    have hc8 : c < 8 := by omega
    have HT := Hd (HPUT.out c hc8 rfl)
    obtain ⟨rv, hrb, hfr, hone, hrow, ⟨RA, RC, hrvf⟩, hput⟩ := HOW.out.at_ (by omega) (a := c) (by rw [acC_len]; exact hc8)
    subst hrvf
    have hrl : (rowOf (acC cl pre) c).length < 24 := Nat.lt_of_le_of_lt (acC_row_len hc8) hpl
    have HPU := Hd hput
    have HRW := Hd hrow
    obtain ⟨R, hR⟩ : ∃ R, rowOf (acC cl pre) c = R := ⟨_, rfl⟩
    rw [hR] at HPU HRW HT hrb hrl
    clear hput hrow hR hone hbk
    gi_wp2_with (
     gi_at_builtin
     refine wpListIn_append_own_at _ rfl (.tmp 26) (.tmp 28) 44 rfl (w3.heap.size + 2) 3 i0 (.int .i64 0) 1 8 Tryz.underlying44 hi hz0 hz1 hz2 rfl (by decide) (.slice RA R.length RC) R.length (ints R) rfl (own_keep1 HRW.out fun gg _ hgl _ => Below.heap_alloc _ _ _ hgl) ⟨X.heap.size, 0, none⟩ 1 1 [.int .i64 (x : Int)] rfl rfl (one_new X _ 3) (by simp [Value.oneCell']) (by unfold maxLen; omega) (by omega) (by have := HSX.out; simp; omega) ?_
     intro v' w' h2 h3 _ h5
     obtain ⟨A5, c5, rfl⟩ := own_form h2
     have hr2 : ∀ r, (Value.slice RA R.length RC).ownBlock = some r → w3.heap.size + 2 ≤ r := fun r e => (HRW.out.lt r e).1
     have h6 := HPU.out (.slice A5 (R.length + 1) c5) (R ++ [(x : Int)]) w' rfl (by rw [List.length_append]; simpa [ints] using h2) (by
      rcases h5 with h5 | h5
      ·exact .inr (.inl h5)
      ·exact .inr (.inr ⟨_, h5, by simp⟩)) (fun k hk hlt hne => (h3.block k (by simp; omega) (fun e => hne e.symm)).trans (Below.heap_alloc _ _ _ hlt))
     have H6 := Hd h6
     have H3 := Hd h3
     have HR2 := Hd hr2
     have hne : some (w.heap.size + 1 + 1) ≠ (Value.slice RA R.length RC).ownBlock := fun e => by have h7 := hr2 _ e.symm; have h8 := HSS.out; omega
     have hcA : (X.alloc (.cells #[.int .i64 (x : Int)] 3)).cell? ⟨w.heap.size + 1 + 1, c, none⟩ = some (.slice RA R.length RC) := cell_on hrb (alloc_ _ _)
     have hc' : w'.cell? ⟨w.heap.size + 1 + 1, c, none⟩ = some (.slice RA R.length RC) := h3.cell hcA hne
     have hfA : (X.alloc (.cells #[.int .i64 (x : Int)] 3)).frozen? ⟨w.heap.size + 1 + 1, c, none⟩ = false := (World.frozen?_of_block (Below.heap_alloc _ _ _ (World.block_lt_of_cell? X _ hrb))).trans hfr
     have hf' : w'.frozen? ⟨w.heap.size + 1 + 1, c, none⟩ = false := (World.frozen?_of_block (h3.block (w.heap.size + 1 + 1) (World.block_lt_of_cell? _ _ hcA) hne)).trans hfA
     clear h2 h3 h5 h6 hcA hfA hne hr2)
    have hbk := HSS.out
    have hk1 : ∀ S : Nat → Prop, (∀ k, S k → k < w3.heap.size + 2 ∧ k ≠ w.heap.size + 1 + 1) → Keeps S X (w'.setCell ⟨w.heap.size + 1 + 1, c, none⟩ (.slice A5 (R.length + 1) c5)) := fun S hS => (((Keeps.refl S X).alloc _).grown H3.out (fun r e h => by have h7 := HR2.out r e; have h8 := (hS r h).1; omega)).setCell (fun h => (hS _ h).2 rfl) _
    exact ⟨hk1 _ (fun k hk => by unfold Two at hk; omega), by rw [HT.out]; exact H6.out, HK9.out.trans (hk1 _ (fun k hk => ⟨by omega, hk.2⟩))⟩
 case done =>
  rintro X ⟨hown, hk9⟩ hD
  rw [HG9.out] at hown
  have hch : ∀ c, ∃ p : Option Addr × Nat, c < 8 → X.cell? ⟨w.heap.size + 1 + 1, c, none⟩ = some (.slice p.1 (rowOf G9 c).length p.2) ∧ X.ownsRow (w3.heap.size + 2) 3 1 (.slice p.1 (rowOf G9 c).length p.2) (rowOf G9 c).length (ints (rowOf G9 c)) := fun c => by
   by_cases h : c < 8
   ·obtain ⟨rv, h1, _, _, h2, ⟨RA, RC, e⟩, _⟩ := hown.at_ (by omega) (a := c) (by rw [← HG9.out, acC_len]; exact h)
    subst e
    exact ⟨(RA, RC), fun _ => ⟨h1, h2⟩⟩
   ·exact ⟨(none, 0), fun h' => absurd h' h⟩
  obtain ⟨sl, hsl⟩ := Classical.skolem.1 hch
  have HSL := Hd (fun c hc => (hsl c hc).2)
  have k0 : X.cell? ⟨w.heap.size + 1 + 1, 0, none⟩ = some (.slice (sl 0).1 (rowOf G9 0).length (sl 0).2) := (hsl 0 (by omega)).1
  have k1 : X.cell? ⟨w.heap.size + 1 + 1, 1, none⟩ = some (.slice (sl 1).1 (rowOf G9 1).length (sl 1).2) := (hsl 1 (by omega)).1
  have k2 : X.cell? ⟨w.heap.size + 1 + 1, 2, none⟩ = some (.slice (sl 2).1 (rowOf G9 2).length (sl 2).2) := (hsl 2 (by omega)).1
  have k3 : X.cell? ⟨w.heap.size + 1 + 1, 3, none⟩ = some (.slice (sl 3).1 (rowOf G9 3).length (sl 3).2) := (hsl 3 (by omega)).1
  have k4 : X.cell? ⟨w.heap.size + 1 + 1, 4, none⟩ = some (.slice (sl 4).1 (rowOf G9 4).length (sl 4).2) := (hsl 4 (by omega)).1
  have k5 : X.cell? ⟨w.heap.size + 1 + 1, 5, none⟩ = some (.slice (sl 5).1 (rowOf G9 5).length (sl 5).2) := (hsl 5 (by omega)).1
  have k6 : X.cell? ⟨w.heap.size + 1 + 1, 6, none⟩ = some (.slice (sl 6).1 (rowOf G9 6).length (sl 6).2) := (hsl 6 (by omega)).1
  have k7 : X.cell? ⟨w.heap.size + 1 + 1, 7, none⟩ = some (.slice (sl 7).1 (rowOf G9 7).length (sl 7).2) := (hsl 7 (by omega)).1
  have hz1 : Blk X (w.heap.size + 1) 93 #[.slice none 0 0, .slice none 0 0, .slice none 0 0, .slice none 0 0, .slice none 0 0, .slice none 0 0, .slice none 0 0, .slice none 0 0] := (hk9.block _ (by omega) (by omega)).trans (HZ1.out.below HB03.out HZ1.out.lt)
  have e0 : X.cell? ⟨w.heap.size + 1, 0, none⟩ = some (.slice none 0 0) := hz1.cell 0
  have f0 : X.frozen? ⟨w.heap.size + 1, 0, none⟩ = false := hz1.frozen 0
  have e1 : X.cell? ⟨w.heap.size + 1, 1, none⟩ = some (.slice none 0 0) := hz1.cell 1
  have f1 : X.frozen? ⟨w.heap.size + 1, 1, none⟩ = false := hz1.frozen 1
  have e2 : X.cell? ⟨w.heap.size + 1, 2, none⟩ = some (.slice none 0 0) := hz1.cell 2
  have f2 : X.frozen? ⟨w.heap.size + 1, 2, none⟩ = false := hz1.frozen 2
  have e3 : X.cell? ⟨w.heap.size + 1, 3, none⟩ = some (.slice none 0 0) := hz1.cell 3
  have f3 : X.frozen? ⟨w.heap.size + 1, 3, none⟩ = false := hz1.frozen 3
  have e4 : X.cell? ⟨w.heap.size + 1, 4, none⟩ = some (.slice none 0 0) := hz1.cell 4
  have f4 : X.frozen? ⟨w.heap.size + 1, 4, none⟩ = false := hz1.frozen 4
  have e5 : X.cell? ⟨w.heap.size + 1, 5, none⟩ = some (.slice none 0 0) := hz1.cell 5
  have f5 : X.frozen? ⟨w.heap.size + 1, 5, none⟩ = false := hz1.frozen 5
  have e6 : X.cell? ⟨w.heap.size + 1, 6, none⟩ = some (.slice none 0 0) := hz1.cell 6
  have f6 : X.frozen? ⟨w.heap.size + 1, 6, none⟩ = false := hz1.frozen 6
  have e7 : X.cell? ⟨w.heap.size + 1, 7, none⟩ = some (.slice none 0 0) := hz1.cell 7
  have f7 : X.frozen? ⟨w.heap.size + 1, 7, none⟩ = false := hz1.frozen 7
  have HZX := Hd hz1
  have HK9 := Hd hk9
  have HD := Hd hD
  clear hz1 hk9 hown hch hsl hD hs0 hs2 hs3
  gi_wp2
  have hbk := HSS.out
  obtain ⟨X8, hX8⟩ : ∃ x, ((((((((X.setCell ⟨w.heap.size + 1, 0, none⟩ (.slice (sl 0).1 (rowOf G9 0).length (sl 0).2)).setCell ⟨w.heap.size + 1, 1, none⟩ (.slice (sl 1).1 (rowOf G9 1).length (sl 1).2)).setCell ⟨w.heap.size + 1, 2, none⟩ (.slice (sl 2).1 (rowOf G9 2).length (sl 2).2)).setCell ⟨w.heap.size + 1, 3, none⟩ (.slice (sl 3).1 (rowOf G9 3).length (sl 3).2)).setCell ⟨w.heap.size + 1, 4, none⟩ (.slice (sl 4).1 (rowOf G9 4).length (sl 4).2)).setCell ⟨w.heap.size + 1, 5, none⟩ (.slice (sl 5).1 (rowOf G9 5).length (sl 5).2)).setCell ⟨w.heap.size + 1, 6, none⟩ (.slice (sl 6).1 (rowOf G9 6).length (sl 6).2)).setCell ⟨w.heap.size + 1, 7, none⟩ (.slice (sl 7).1 (rowOf G9 7).length (sl 7).2)) = x := ⟨_, rfl⟩
  rw [hX8]
  have hb8 : Blk X8 (w.heap.size + 1) 93 #[.slice (sl 0).1 (rowOf G9 0).length (sl 0).2, .slice (sl 1).1 (rowOf G9 1).length (sl 1).2, .slice (sl 2).1 (rowOf G9 2).length (sl 2).2, .slice (sl 3).1 (rowOf G9 3).length (sl 3).2, .slice (sl 4).1 (rowOf G9 4).length (sl 4).2, .slice (sl 5).1 (rowOf G9 5).length (sl 5).2, .slice (sl 6).1 (rowOf G9 6).length (sl 6).2, .slice (sl 7).1 (rowOf G9 7).length (sl 7).2] := by rw [← hX8]; exact ((((((((HZX.out.stored 0 _).stored 1 _).stored 2 _).stored 3 _).stored 4 _).stored 5 _).stored 6 _).stored 7 _)
  have hk8 : Keeps (fun k => k ≠ w.heap.size + 1) X X8 := by rw [← hX8]; exact (((((((((Keeps.refl (fun k => k ≠ w.heap.size + 1) X).setCell (p := ⟨w.heap.size + 1, 0, none⟩) (by simp) _).setCell (p := ⟨w.heap.size + 1, 1, none⟩) (by simp) _).setCell (p := ⟨w.heap.size + 1, 2, none⟩) (by simp) _).setCell (p := ⟨w.heap.size + 1, 3, none⟩) (by simp) _).setCell (p := ⟨w.heap.size + 1, 4, none⟩) (by simp) _).setCell (p := ⟨w.heap.size + 1, 5, none⟩) (by simp) _).setCell (p := ⟨w.heap.size + 1, 6, none⟩) (by simp) _).setCell (p := ⟨w.heap.size + 1, 7, none⟩) (by simp) _)
  have hsx : w3.heap.size < X.heap.size := (Array.getElem?_eq_some_iff.1 HD.out).1
  have hD8 : X8.heap[w3.heap.size]? = some (.deferred (some [])) := (hk8.block _ (by show w3.heap.size ≠ w.heap.size + 1; omega) hsx).trans HD.out
  have hk9' : Keeps (fun k => k ≠ w3.heap.size) X8 (X8.putObj w3.heap.size (.deferred none)) := (Keeps.refl _ X8).putObj (by simp) _
  have hb9 : Blk (X8.putObj w3.heap.size (.deferred none)) (w.heap.size + 1) 93 #[.slice (sl 0).1 (rowOf G9 0).length (sl 0).2, .slice (sl 1).1 (rowOf G9 1).length (sl 1).2, .slice (sl 2).1 (rowOf G9 2).length (sl 2).2, .slice (sl 3).1 (rowOf G9 3).length (sl 3).2, .slice (sl 4).1 (rowOf G9 4).length (sl 4).2, .slice (sl 5).1 (rowOf G9 5).length (sl 5).2, .slice (sl 6).1 (rowOf G9 6).length (sl 6).2, .slice (sl 7).1 (rowOf G9 7).length (sl 7).2] := (World.putObj_heap_other (by omega)).trans hb8
  refine ⟨by simp, .inl ⟨_, _, rfl, run_takeDeferred hD8, ?_⟩⟩
  obtain ⟨W9, hW9⟩ : ∃ x, X8.putObj w3.heap.size (.deferred none) = x := ⟨_, rfl⟩
  rw [hW9] at hk9' hb9 ⊢
  clear hW9 hX8
  have q0 := hb9.cell 0
  have q1 := hb9.cell 1
  have q2 := hb9.cell 2
  have q3 := hb9.cell 3
  have q4 := hb9.cell 4
  have q5 := hb9.cell 5
  have q6 := hb9.cell 6
  have q7 := hb9.cell 7
  have hsz8 := hk8.size
  have hall : Below w.heap.size w W9 := (to_ HB0.out HB03.out).trans ((HK9.out.below (by omega) (fun k hk => ⟨by omega, by omega⟩)).trans ((hk8.below (by omega) (fun k hk => by omega)).trans (hk9'.below (by omega) (fun k hk => by omega))))
  refine ⟨.agg #[.slice (sl 0).1 (rowOf G9 0).length (sl 0).2, .slice (sl 1).1 (rowOf G9 1).length (sl 1).2, .slice (sl 2).1 (rowOf G9 2).length (sl 2).2, .slice (sl 3).1 (rowOf G9 3).length (sl 3).2, .slice (sl 4).1 (rowOf G9 4).length (sl 4).2, .slice (sl 5).1 (rowOf G9 5).length (sl 5).2, .slice (sl 6).1 (rowOf G9 6).length (sl 6).2, .slice (sl 7).1 (rowOf G9 7).length (sl 7).2], by simp [results, Tryz.results52, go_sem, q0, q1, q2, q3, q4, q5, q6, q7], sl, rfl, fun c hc => ?_, hall, fun c ad hc e => ?_⟩
  ·have ho := own_keep1 (w' := W9) (HSL.out c hc) (fun gg hg hlt _ => (hk9'.block gg (by show gg ≠ w3.heap.size; omega) (by omega)).trans (hk8.block gg (by show gg ≠ w.heap.size + 1; omega) hlt))
   obtain ⟨A', c', e', hil⟩ := own_il (by rw [flat_encI]; exact ho)
   injection e' with e1 e2 e3
   subst e1 e3
   exact hil
  ·have := ((HSL.out c hc).lt ad.block (by rw [e]; rfl)).1
   omega
 case stop =>
  rintro ch pre X _ h _
  exact h.elim
end Go.Proofs.YtdaimeaofgbfpaaGreat.Bo
