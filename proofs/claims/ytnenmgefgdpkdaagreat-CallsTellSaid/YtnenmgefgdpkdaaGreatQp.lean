/-
 LISTS OF ROWS that a call makes. WALKS of layer 25's document: Lists.
-/
import Derived.Test.YtnenmgefgdpkdaaGreatZa
import Derived.Test.YtnenmgefgdpkdaaGreatQo
namespace Go.Proofs.YtnenmgefgdpkdaaGreat.Bo
open Go.RowKit Go.Maps
open Mem Rf
set_option linter.unusedSimpArgs false
set_option linter.unusedVariables false
theorem infoRow : (Tryz.prog.info? 42).map (fun i => (i.zero, i.size, i.bytes)) = some (some (.slice none 0 0), 1, 24) := by kernel_rfl
def rowO (g : List (List Int)) (a : Nat) : List Int := g.getD a []
/-- Rows of the call's own, in a list of the call's own. -/
def OutI (w : World) (B : Nat) (ov : Value) (L : List (List Int)) : Prop :=
 ∃ rs : List Value, rs.length = L.length ∧ w.ownsRow B 42 1 ov L.length rs ∧ ∀ (i : Nat) rv, rs[i]? = some rv → w.ownsRow B 3 1 rv (rowO L i).length ((rowO L i).flatMap encI)
theorem OutI.nil (w : World) (B : Nat) : OutI w B (.slice none 0 0) [] := ⟨[], rfl, World.ownsRow_nil _ _ _ _, fun i rv h => by simp at h⟩
theorem OutI.later {w w' : World} {B : Nat} {ov : Value} {L : List (List Int)} (h : OutI w B ov L) (hb : Below w.heap.size w w') : OutI w' B ov L := by
 obtain ⟨rs, h1, h2, h3⟩ := h
 exact ⟨rs, h1, own_on h2 hb, fun i rv hi => own_on (h3 i rv hi) hb⟩
theorem OutI.lower {w : World} {B B' : Nat} {ov : Value} {L : List (List Int)} (h : OutI w B ov L) (hB : B' ≤ B) : OutI w B' ov L := by
 obtain ⟨rs, h1, h2, h3⟩ := h
 exact ⟨rs, h1, own_lower h2 hB, fun i rv hi => own_lower (h3 i rv hi) hB⟩
theorem rowO_snoc (L : List (List Int)) (l : List Int) (i : Nat) : rowO (L ++ [l]) i = if i < L.length then rowO L i else if i = L.length then l else [] := by
 unfold rowO
 rw [List.getD_eq_getElem?_getD, List.getD_eq_getElem?_getD]
 by_cases h : i < L.length
 ·rw [if_pos h, List.getElem?_append_left h]
 ·rw [if_neg h, List.getElem?_append_right (by omega)]
  by_cases h2 : i = L.length
  ·rw [if_pos h2, h2, Nat.sub_self]; rfl
  ·rw [if_neg h2, List.getElem?_eq_none (by simp; omega)]; rfl
/-- One row more. -/
theorem OutI.more {w w6 : World} {B : Nat} {ov ov' rv : Value} {L : List (List Int)} {l : List Int} {rs : List Value} {o : Obj} (h1 : rs.length = L.length) (h2 : w.ownsRow B 42 1 ov L.length rs) (h3 : ∀ (i : Nat) x, rs[i]? = some x → w.ownsRow B 3 1 x (rowO L i).length ((rowO L i).flatMap encI))
  (hr : w.ownsRow B 3 1 rv l.length (l.flatMap encI)) (g2 : w6.ownsRow B 42 1 ov' (L.length + 1) (rs ++ [rv])) (g3 : (w.alloc o).grownBy w6 ov.ownBlock) : OutI w6 B ov' (L ++ [l]) := by
 have h2' := own_on h2 (alloc_ w o)
 refine ⟨rs ++ [rv], by simp [h1], by rw [List.length_append]; exact g2, fun i x hi => ?_⟩
 rw [rowO_snoc]
 by_cases h : i < L.length
 ·rw [if_pos h]
  rw [List.getElem?_append_left (by omega)] at hi
  exact own_apart (own_on (h3 i x hi) (alloc_ w o)) h2' (by decide) g3
 ·rw [if_neg h]
  rw [List.getElem?_append_right (by omega)] at hi
  have hi0 : i - rs.length = 0 := by have := (List.getElem?_eq_some_iff.1 hi).1; simpa using this
  rw [if_pos (by omega)]
  rw [hi0] at hi
  injection hi with hi
  subst hi
  exact own_apart (own_on hr (alloc_ w o)) h2' (by decide) g3
def GOwn (w : World) (L : List (List Int)) (e : Ending) (w' : World) : Prop := ∃ ov, e = .returned ov ∧ OutI w' w.heap.size ov L ∧ Below w.heap.size w w'
theorem flat_ints (l : List Int) : l.flatMap encI = By.ints l := by
 induction l with
 | nil => rfl
 | cons x l ih => rw [List.flatMap_cons, ih]; rfl
theorem OutI.gr {w : World} {B : Nat} {ov : Value} {L : List (List Int)} (h : OutI w B ov L) : ∃ A c, ov = .slice A L.length c ∧ By.Gr w w.heap.size (.slice A L.length c) L := by
 obtain ⟨rs, h1, h2, h3⟩ := h
 obtain ⟨A, c, rfl⟩ := own_form h2
 refine ⟨A, c, rfl, rs, SlV.of_own (n := L.length) h2, h1, fun i rv hi => ?_⟩
 have h9 := h3 i rv hi
 obtain ⟨A2, c2, rfl⟩ := own_form h9
 exact ⟨A2, c2, rfl, by have := SlV.of_own h9; rw [flat_ints] at this; exact this⟩
theorem map_next {α : Type} (f : Nat → α) (k : Nat) : (List.range (k + 1)).map f = (List.range k).map f ++ [f k] := by rw [List.range_succ, List.map_append]; rfl
set_option maxRecDepth 100000 in
set_option maxHeartbeats 4000000 in
theorem lists0_doc (w : World) (P : Pgm) (h : PgR w P) :
  Calls Tryz.prog 18 #[pgV P, .int .i64 0] w (GOwn w ((List.range P.fn).map (directL P))) := by
 obtain ⟨iR, hiR, hzR0, hzR1, hzR2⟩ := info_split infoRow
 have hfw := h.few.1
 have HF := Lib.hid (fun W (hb : Below w.heap.size w W) k (hk : k < P.fn) => show Calls Tryz.prog 54 #[pgV P, .int .i64 (k : Int)] W (IOwn W (directL P k)) from direct_doc W P (h.on hb) k hk)
 clear h
 obtain ⟨L, hL⟩ : ∃ x, directL P = x := ⟨_, rfl⟩
 rw [hL] at HF ⊢
 clear hL
 obtain ⟨fA, fn, fc, fs, dA, dn, dc, ds, en, cs⟩ := P
 unfold pgV at HF ⊢
 unfold IOwn at HF
 dsimp only at HF hfw ⊢
 obtain ⟨W0, hW0⟩ : ∃ W0, w.alloc (.cells #[.slice fA fn fc, .slice dA dn dc, .int .i64 en] 29) = W0 := ⟨_, rfl⟩
 have HB0 := Lib.hid (show Below w.heap.size w W0 from by rw [← hW0]; exact alloc_ _ _)
 have hbk : Blk W0 w.heap.size 29 #[.slice fA fn fc, .slice dA dn dc, .int .i64 en] := by rw [← hW0]; exact Blk.new _ _ _
 have hz0 := hbk.lt
 have HX := Lib.hid (fun W (hb : Below W0.heap.size W0 W) => show W.cell? ⟨w.heap.size, 0, none⟩ = some (.slice fA fn fc) ∧ W.cell? ⟨w.heap.size, 1, none⟩ = some (.slice dA dn dc) ∧ W.cell? ⟨w.heap.size, 2, none⟩ = some (.int .i64 en) from ⟨(hbk.below hb hbk.lt).cell 0, (hbk.below hb hbk.lt).cell 1, (hbk.below hb hbk.lt).cell 2⟩)
 obtain ⟨c0, c1, c2⟩ := HX.out W0 (Below.refl _ _)
 clear hbk
 unfold GOwn
 go_enter Tryz.func18, Tryz.ntmps18
 go_wp2_with fail
 clear hW0 c0 c1 c2
 go_loopw [5, 6] (fun v9 i9 wr => ∃ k : Nat, k ≤ fn ∧ i9 = .int .i64 (k : Int) ∧ Hid (OutI wr W0.heap.size v9 ((List.range k).map L)) ∧ Hid (Below W0.heap.size W0 wr)) (fun _ i9 _ => fn - (intOf i9).toNat)
 case atStart => exact ⟨0, Nat.zero_le _, rfl, Lib.hid (OutI.nil _ _), Lib.hid (Below.refl _ _)⟩
 case round =>
  obtain ⟨k, hk, rfl, HOU, HBE⟩ := hrel
  obtain ⟨c0, c1, c2⟩ := HX.out wr HBE.out
  have HBW := Lib.hid (to_ HB0.out HBE.out)
  by_cases hlt : k < fn
  ·have hkI : (k : Int) < (fn : Int) := by omega
   obtain ⟨rs, h1, h2, h3⟩ := HOU.out
   have hlen : ((List.range k).map L).length = k := by simp
   rw [hlen] at h1 h2
   have H1 := Lib.hid h1
   have H2 := Lib.hid h2
   have H3 := Lib.hid h3
   have HMN := Lib.hid (map_next L k)
   have HLE := Lib.hid hlen
   have HC := Lib.hid (HF.out wr HBW.out k hlt)
   have HLT := Lib.hid hlt
   clear h1 h2 h3 hlen
   go_wp2_with (go_at_call 54; refine HC.out.mono ?_; rintro e w1 ⟨v1, rfl, ho1, b1⟩; obtain ⟨rA, rc, rfl⟩ := own_form ho1; have HO1 := Lib.hid (own_lower ho1 HBE.out.size); have HB1 := Lib.hid b1; clear ho1 b1; go_wp2_with (at_builtin; go_loud (refine wpList_append_own _ rfl _ _ 38 rfl W0.heap.size 42 iR (.slice none 0 0) 1 24 Tryz.underlying38 hiR hzR0 hzR1 hzR2 rfl (by decide) _ k rs rfl (own_on H2.out (to_ HB1.out (alloc_ _ _))) ⟨w1.heap.size, 0, none⟩ 1 1 [.slice rA (L k).length rc] rfl rfl (one_new w1 _ 42) (by simp [Value.oneCell']) (by unfold maxLen; omega) (by omega) (by have := HBE.out.size; have := HB1.out.size; simp; omega) ?_; intro v' w' h2 h3 _; have G2 := Lib.hid h2; have G3 := Lib.hid h3; clear h2 h3)))
   go_roundw
   case rel =>
    refine ⟨k + 1, by have := HLT.out; omega, by go_num, Lib.hid ?_, Lib.hid ((to_ HBE.out (to_ HB1.out (alloc_ _ _))).grown G3.out (to_ HBE.out (to_ HB1.out (alloc_ _ _))).size fun r e => (H2.out.lt r e).1)⟩
    rw [HMN.out]
    exact OutI.more (by rw [HLE.out]; exact H1.out) (by rw [HLE.out]; exact own_on H2.out HB1.out) (fun i x hi => own_on (H3.out i x hi) HB1.out) HO1.out (by rw [HLE.out]; exact G2.out) G3.out
   case measure => have := HLT.out; simp [intOf]; omega
  ·obtain rfl : fn = k := by omega
   go_wp2_with fail
   go_ret
   exact ⟨_, rfl, HOU.out.lower HB0.out.size, HBW.out⟩
set_option maxRecDepth 100000 in
set_option maxHeartbeats 4000000 in
theorem lists1_doc (w : World) (P : Pgm) (h : PgR w P) :
  Calls Tryz.prog 18 #[pgV P, .int .i64 1] w (GOwn w ((List.range P.fn).map (valuesL P))) := by
 obtain ⟨iR, hiR, hzR0, hzR1, hzR2⟩ := info_split infoRow
 have hfw := h.few.1
 have HF := Lib.hid (fun W (hb : Below w.heap.size w W) k (hk : k < P.fn) => show Calls Tryz.prog 55 #[pgV P, .int .i64 (k : Int)] W (IOwn W (valuesL P k)) from values_doc W P (h.on hb) k hk)
 clear h
 obtain ⟨L, hL⟩ : ∃ x, valuesL P = x := ⟨_, rfl⟩
 rw [hL] at HF ⊢
 clear hL
 obtain ⟨fA, fn, fc, fs, dA, dn, dc, ds, en, cs⟩ := P
 unfold pgV at HF ⊢
 unfold IOwn at HF
 dsimp only at HF hfw ⊢
 obtain ⟨W0, hW0⟩ : ∃ W0, w.alloc (.cells #[.slice fA fn fc, .slice dA dn dc, .int .i64 en] 29) = W0 := ⟨_, rfl⟩
 have HB0 := Lib.hid (show Below w.heap.size w W0 from by rw [← hW0]; exact alloc_ _ _)
 have hbk : Blk W0 w.heap.size 29 #[.slice fA fn fc, .slice dA dn dc, .int .i64 en] := by rw [← hW0]; exact Blk.new _ _ _
 have hz0 := hbk.lt
 have HX := Lib.hid (fun W (hb : Below W0.heap.size W0 W) => show W.cell? ⟨w.heap.size, 0, none⟩ = some (.slice fA fn fc) ∧ W.cell? ⟨w.heap.size, 1, none⟩ = some (.slice dA dn dc) ∧ W.cell? ⟨w.heap.size, 2, none⟩ = some (.int .i64 en) from ⟨(hbk.below hb hbk.lt).cell 0, (hbk.below hb hbk.lt).cell 1, (hbk.below hb hbk.lt).cell 2⟩)
 obtain ⟨c0, c1, c2⟩ := HX.out W0 (Below.refl _ _)
 clear hbk
 unfold GOwn
 go_enter Tryz.func18, Tryz.ntmps18
 go_wp2_with fail
 clear hW0 c0 c1 c2
 go_loopw [5, 6] (fun v9 i9 wr => ∃ k : Nat, k ≤ fn ∧ i9 = .int .i64 (k : Int) ∧ Hid (OutI wr W0.heap.size v9 ((List.range k).map L)) ∧ Hid (Below W0.heap.size W0 wr)) (fun _ i9 _ => fn - (intOf i9).toNat)
 case atStart => exact ⟨0, Nat.zero_le _, rfl, Lib.hid (OutI.nil _ _), Lib.hid (Below.refl _ _)⟩
 case round =>
  obtain ⟨k, hk, rfl, HOU, HBE⟩ := hrel
  obtain ⟨c0, c1, c2⟩ := HX.out wr HBE.out
  have HBW := Lib.hid (to_ HB0.out HBE.out)
  by_cases hlt : k < fn
  ·have hkI : (k : Int) < (fn : Int) := by omega
   obtain ⟨rs, h1, h2, h3⟩ := HOU.out
   have hlen : ((List.range k).map L).length = k := by simp
   rw [hlen] at h1 h2
   have H1 := Lib.hid h1
   have H2 := Lib.hid h2
   have H3 := Lib.hid h3
   have HMN := Lib.hid (map_next L k)
   have HLE := Lib.hid hlen
   have HC := Lib.hid (HF.out wr HBW.out k hlt)
   have HLT := Lib.hid hlt
   clear h1 h2 h3 hlen
   go_wp2_with (go_at_call 55; refine HC.out.mono ?_; rintro e w1 ⟨v1, rfl, ho1, b1⟩; obtain ⟨rA, rc, rfl⟩ := own_form ho1; have HO1 := Lib.hid (own_lower ho1 HBE.out.size); have HB1 := Lib.hid b1; clear ho1 b1; go_wp2_with (at_builtin; go_loud (refine wpList_append_own _ rfl _ _ 38 rfl W0.heap.size 42 iR (.slice none 0 0) 1 24 Tryz.underlying38 hiR hzR0 hzR1 hzR2 rfl (by decide) _ k rs rfl (own_on H2.out (to_ HB1.out (alloc_ _ _))) ⟨w1.heap.size, 0, none⟩ 1 1 [.slice rA (L k).length rc] rfl rfl (one_new w1 _ 42) (by simp [Value.oneCell']) (by unfold maxLen; omega) (by omega) (by have := HBE.out.size; have := HB1.out.size; simp; omega) ?_; intro v' w' h2 h3 _; have G2 := Lib.hid h2; have G3 := Lib.hid h3; clear h2 h3)))
   go_roundw
   case rel =>
    refine ⟨k + 1, by have := HLT.out; omega, by go_num, Lib.hid ?_, Lib.hid ((to_ HBE.out (to_ HB1.out (alloc_ _ _))).grown G3.out (to_ HBE.out (to_ HB1.out (alloc_ _ _))).size fun r e => (H2.out.lt r e).1)⟩
    rw [HMN.out]
    exact OutI.more (by rw [HLE.out]; exact H1.out) (by rw [HLE.out]; exact own_on H2.out HB1.out) (fun i x hi => own_on (H3.out i x hi) HB1.out) HO1.out (by rw [HLE.out]; exact G2.out) G3.out
   case measure => have := HLT.out; simp [intOf]; omega
  ·obtain rfl : fn = k := by omega
   go_wp2_with fail
   go_ret
   exact ⟨_, rfl, HOU.out.lower HB0.out.size, HBW.out⟩
set_option maxRecDepth 100000 in
set_option maxHeartbeats 4000000 in
theorem lists2_doc (w : World) (P : Pgm) (h : PgR w P) :
  Calls Tryz.prog 18 #[pgV P, .int .i64 2] w (GOwn w ((List.range P.fn).map (refersL P))) := by
 obtain ⟨iR, hiR, hzR0, hzR1, hzR2⟩ := info_split infoRow
 have hfw := h.few.1
 have HF := Lib.hid (fun W (hb : Below w.heap.size w W) k (hk : k < P.fn) => show Calls Tryz.prog 56 #[pgV P, .int .i64 (k : Int)] W (IOwn W (refersL P k)) from refers_doc W P (h.on hb) k hk)
 clear h
 obtain ⟨L, hL⟩ : ∃ x, refersL P = x := ⟨_, rfl⟩
 rw [hL] at HF ⊢
 clear hL
 obtain ⟨fA, fn, fc, fs, dA, dn, dc, ds, en, cs⟩ := P
 unfold pgV at HF ⊢
 unfold IOwn at HF
 dsimp only at HF hfw ⊢
 obtain ⟨W0, hW0⟩ : ∃ W0, w.alloc (.cells #[.slice fA fn fc, .slice dA dn dc, .int .i64 en] 29) = W0 := ⟨_, rfl⟩
 have HB0 := Lib.hid (show Below w.heap.size w W0 from by rw [← hW0]; exact alloc_ _ _)
 have hbk : Blk W0 w.heap.size 29 #[.slice fA fn fc, .slice dA dn dc, .int .i64 en] := by rw [← hW0]; exact Blk.new _ _ _
 have hz0 := hbk.lt
 have HX := Lib.hid (fun W (hb : Below W0.heap.size W0 W) => show W.cell? ⟨w.heap.size, 0, none⟩ = some (.slice fA fn fc) ∧ W.cell? ⟨w.heap.size, 1, none⟩ = some (.slice dA dn dc) ∧ W.cell? ⟨w.heap.size, 2, none⟩ = some (.int .i64 en) from ⟨(hbk.below hb hbk.lt).cell 0, (hbk.below hb hbk.lt).cell 1, (hbk.below hb hbk.lt).cell 2⟩)
 obtain ⟨c0, c1, c2⟩ := HX.out W0 (Below.refl _ _)
 clear hbk
 unfold GOwn
 go_enter Tryz.func18, Tryz.ntmps18
 go_wp2_with fail
 clear hW0 c0 c1 c2
 go_loopw [5, 6] (fun v9 i9 wr => ∃ k : Nat, k ≤ fn ∧ i9 = .int .i64 (k : Int) ∧ Hid (OutI wr W0.heap.size v9 ((List.range k).map L)) ∧ Hid (Below W0.heap.size W0 wr)) (fun _ i9 _ => fn - (intOf i9).toNat)
 case atStart => exact ⟨0, Nat.zero_le _, rfl, Lib.hid (OutI.nil _ _), Lib.hid (Below.refl _ _)⟩
 case round =>
  obtain ⟨k, hk, rfl, HOU, HBE⟩ := hrel
  obtain ⟨c0, c1, c2⟩ := HX.out wr HBE.out
  have HBW := Lib.hid (to_ HB0.out HBE.out)
  by_cases hlt : k < fn
  ·have hkI : (k : Int) < (fn : Int) := by omega
   obtain ⟨rs, h1, h2, h3⟩ := HOU.out
   have hlen : ((List.range k).map L).length = k := by simp
   rw [hlen] at h1 h2
   have H1 := Lib.hid h1
   have H2 := Lib.hid h2
   have H3 := Lib.hid h3
   have HMN := Lib.hid (map_next L k)
   have HLE := Lib.hid hlen
   have HC := Lib.hid (HF.out wr HBW.out k hlt)
   have HLT := Lib.hid hlt
   clear h1 h2 h3 hlen
   go_wp2_with (go_at_call 56; refine HC.out.mono ?_; rintro e w1 ⟨v1, rfl, ho1, b1⟩; obtain ⟨rA, rc, rfl⟩ := own_form ho1; have HO1 := Lib.hid (own_lower ho1 HBE.out.size); have HB1 := Lib.hid b1; clear ho1 b1; go_wp2_with (at_builtin; go_loud (refine wpList_append_own _ rfl _ _ 38 rfl W0.heap.size 42 iR (.slice none 0 0) 1 24 Tryz.underlying38 hiR hzR0 hzR1 hzR2 rfl (by decide) _ k rs rfl (own_on H2.out (to_ HB1.out (alloc_ _ _))) ⟨w1.heap.size, 0, none⟩ 1 1 [.slice rA (L k).length rc] rfl rfl (one_new w1 _ 42) (by simp [Value.oneCell']) (by unfold maxLen; omega) (by omega) (by have := HBE.out.size; have := HB1.out.size; simp; omega) ?_; intro v' w' h2 h3 _; have G2 := Lib.hid h2; have G3 := Lib.hid h3; clear h2 h3)))
   go_roundw
   case rel =>
    refine ⟨k + 1, by have := HLT.out; omega, by go_num, Lib.hid ?_, Lib.hid ((to_ HBE.out (to_ HB1.out (alloc_ _ _))).grown G3.out (to_ HBE.out (to_ HB1.out (alloc_ _ _))).size fun r e => (H2.out.lt r e).1)⟩
    rw [HMN.out]
    exact OutI.more (by rw [HLE.out]; exact H1.out) (by rw [HLE.out]; exact own_on H2.out HB1.out) (fun i x hi => own_on (H3.out i x hi) HB1.out) HO1.out (by rw [HLE.out]; exact G2.out) G3.out
   case measure => have := HLT.out; simp [intOf]; omega
  ·obtain rfl : fn = k := by omega
   go_wp2_with fail
   go_ret
   exact ⟨_, rfl, HOU.out.lower HB0.out.size, HBW.out⟩
set_option maxRecDepth 100000 in
set_option maxHeartbeats 4000000 in
theorem lists3_doc (w : World) (P : Pgm) (h : PgR w P) :
  Calls Tryz.prog 18 #[pgV P, .int .i64 3] w (GOwn w ((List.range P.fn).map (viasL P))) := by
 obtain ⟨iR, hiR, hzR0, hzR1, hzR2⟩ := info_split infoRow
 have hfw := h.few.1
 have HF := Lib.hid (fun W (hb : Below w.heap.size w W) k (hk : k < P.fn) => show Calls Tryz.prog 57 #[pgV P, .int .i64 (k : Int)] W (IOwn W (viasL P k)) from vias_doc W P (h.on hb) k hk)
 clear h
 obtain ⟨L, hL⟩ : ∃ x, viasL P = x := ⟨_, rfl⟩
 rw [hL] at HF ⊢
 clear hL
 obtain ⟨fA, fn, fc, fs, dA, dn, dc, ds, en, cs⟩ := P
 unfold pgV at HF ⊢
 unfold IOwn at HF
 dsimp only at HF hfw ⊢
 obtain ⟨W0, hW0⟩ : ∃ W0, w.alloc (.cells #[.slice fA fn fc, .slice dA dn dc, .int .i64 en] 29) = W0 := ⟨_, rfl⟩
 have HB0 := Lib.hid (show Below w.heap.size w W0 from by rw [← hW0]; exact alloc_ _ _)
 have hbk : Blk W0 w.heap.size 29 #[.slice fA fn fc, .slice dA dn dc, .int .i64 en] := by rw [← hW0]; exact Blk.new _ _ _
 have hz0 := hbk.lt
 have HX := Lib.hid (fun W (hb : Below W0.heap.size W0 W) => show W.cell? ⟨w.heap.size, 0, none⟩ = some (.slice fA fn fc) ∧ W.cell? ⟨w.heap.size, 1, none⟩ = some (.slice dA dn dc) ∧ W.cell? ⟨w.heap.size, 2, none⟩ = some (.int .i64 en) from ⟨(hbk.below hb hbk.lt).cell 0, (hbk.below hb hbk.lt).cell 1, (hbk.below hb hbk.lt).cell 2⟩)
 obtain ⟨c0, c1, c2⟩ := HX.out W0 (Below.refl _ _)
 clear hbk
 unfold GOwn
 go_enter Tryz.func18, Tryz.ntmps18
 go_wp2_with fail
 clear hW0 c0 c1 c2
 go_loopw [5, 6] (fun v9 i9 wr => ∃ k : Nat, k ≤ fn ∧ i9 = .int .i64 (k : Int) ∧ Hid (OutI wr W0.heap.size v9 ((List.range k).map L)) ∧ Hid (Below W0.heap.size W0 wr)) (fun _ i9 _ => fn - (intOf i9).toNat)
 case atStart => exact ⟨0, Nat.zero_le _, rfl, Lib.hid (OutI.nil _ _), Lib.hid (Below.refl _ _)⟩
 case round =>
  obtain ⟨k, hk, rfl, HOU, HBE⟩ := hrel
  obtain ⟨c0, c1, c2⟩ := HX.out wr HBE.out
  have HBW := Lib.hid (to_ HB0.out HBE.out)
  by_cases hlt : k < fn
  ·have hkI : (k : Int) < (fn : Int) := by omega
   obtain ⟨rs, h1, h2, h3⟩ := HOU.out
   have hlen : ((List.range k).map L).length = k := by simp
   rw [hlen] at h1 h2
   have H1 := Lib.hid h1
   have H2 := Lib.hid h2
   have H3 := Lib.hid h3
   have HMN := Lib.hid (map_next L k)
   have HLE := Lib.hid hlen
   have HC := Lib.hid (HF.out wr HBW.out k hlt)
   have HLT := Lib.hid hlt
   clear h1 h2 h3 hlen
   go_wp2_with (go_at_call 57; refine HC.out.mono ?_; rintro e w1 ⟨v1, rfl, ho1, b1⟩; obtain ⟨rA, rc, rfl⟩ := own_form ho1; have HO1 := Lib.hid (own_lower ho1 HBE.out.size); have HB1 := Lib.hid b1; clear ho1 b1; go_wp2_with (at_builtin; go_loud (refine wpList_append_own _ rfl _ _ 38 rfl W0.heap.size 42 iR (.slice none 0 0) 1 24 Tryz.underlying38 hiR hzR0 hzR1 hzR2 rfl (by decide) _ k rs rfl (own_on H2.out (to_ HB1.out (alloc_ _ _))) ⟨w1.heap.size, 0, none⟩ 1 1 [.slice rA (L k).length rc] rfl rfl (one_new w1 _ 42) (by simp [Value.oneCell']) (by unfold maxLen; omega) (by omega) (by have := HBE.out.size; have := HB1.out.size; simp; omega) ?_; intro v' w' h2 h3 _; have G2 := Lib.hid h2; have G3 := Lib.hid h3; clear h2 h3)))
   go_roundw
   case rel =>
    refine ⟨k + 1, by have := HLT.out; omega, by go_num, Lib.hid ?_, Lib.hid ((to_ HBE.out (to_ HB1.out (alloc_ _ _))).grown G3.out (to_ HBE.out (to_ HB1.out (alloc_ _ _))).size fun r e => (H2.out.lt r e).1)⟩
    rw [HMN.out]
    exact OutI.more (by rw [HLE.out]; exact H1.out) (by rw [HLE.out]; exact own_on H2.out HB1.out) (fun i x hi => own_on (H3.out i x hi) HB1.out) HO1.out (by rw [HLE.out]; exact G2.out) G3.out
   case measure => have := HLT.out; simp [intOf]; omega
  ·obtain rfl : fn = k := by omega
   go_wp2_with fail
   go_ret
   exact ⟨_, rfl, HOU.out.lower HB0.out.size, HBW.out⟩
set_option maxRecDepth 100000 in
set_option maxHeartbeats 4000000 in
theorem lists4_doc (w : World) (P : Pgm) (h : PgR w P) :
  Calls Tryz.prog 18 #[pgV P, .int .i64 4] w (GOwn w ((List.range P.fn).map (datasL P))) := by
 obtain ⟨iR, hiR, hzR0, hzR1, hzR2⟩ := info_split infoRow
 have hfw := h.few.1
 have HF := Lib.hid (fun W (hb : Below w.heap.size w W) k (hk : k < P.fn) => show Calls Tryz.prog 58 #[pgV P, .int .i64 (k : Int)] W (IOwn W (datasL P k)) from datas_doc W P (h.on hb) k hk)
 clear h
 obtain ⟨L, hL⟩ : ∃ x, datasL P = x := ⟨_, rfl⟩
 rw [hL] at HF ⊢
 clear hL
 obtain ⟨fA, fn, fc, fs, dA, dn, dc, ds, en, cs⟩ := P
 unfold pgV at HF ⊢
 unfold IOwn at HF
 dsimp only at HF hfw ⊢
 obtain ⟨W0, hW0⟩ : ∃ W0, w.alloc (.cells #[.slice fA fn fc, .slice dA dn dc, .int .i64 en] 29) = W0 := ⟨_, rfl⟩
 have HB0 := Lib.hid (show Below w.heap.size w W0 from by rw [← hW0]; exact alloc_ _ _)
 have hbk : Blk W0 w.heap.size 29 #[.slice fA fn fc, .slice dA dn dc, .int .i64 en] := by rw [← hW0]; exact Blk.new _ _ _
 have hz0 := hbk.lt
 have HX := Lib.hid (fun W (hb : Below W0.heap.size W0 W) => show W.cell? ⟨w.heap.size, 0, none⟩ = some (.slice fA fn fc) ∧ W.cell? ⟨w.heap.size, 1, none⟩ = some (.slice dA dn dc) ∧ W.cell? ⟨w.heap.size, 2, none⟩ = some (.int .i64 en) from ⟨(hbk.below hb hbk.lt).cell 0, (hbk.below hb hbk.lt).cell 1, (hbk.below hb hbk.lt).cell 2⟩)
 obtain ⟨c0, c1, c2⟩ := HX.out W0 (Below.refl _ _)
 clear hbk
 unfold GOwn
 go_enter Tryz.func18, Tryz.ntmps18
 go_wp2_with fail
 clear hW0 c0 c1 c2
 go_loopw [5, 6] (fun v9 i9 wr => ∃ k : Nat, k ≤ fn ∧ i9 = .int .i64 (k : Int) ∧ Hid (OutI wr W0.heap.size v9 ((List.range k).map L)) ∧ Hid (Below W0.heap.size W0 wr)) (fun _ i9 _ => fn - (intOf i9).toNat)
 case atStart => exact ⟨0, Nat.zero_le _, rfl, Lib.hid (OutI.nil _ _), Lib.hid (Below.refl _ _)⟩
 case round =>
  obtain ⟨k, hk, rfl, HOU, HBE⟩ := hrel
  obtain ⟨c0, c1, c2⟩ := HX.out wr HBE.out
  have HBW := Lib.hid (to_ HB0.out HBE.out)
  by_cases hlt : k < fn
  ·have hkI : (k : Int) < (fn : Int) := by omega
   obtain ⟨rs, h1, h2, h3⟩ := HOU.out
   have hlen : ((List.range k).map L).length = k := by simp
   rw [hlen] at h1 h2
   have H1 := Lib.hid h1
   have H2 := Lib.hid h2
   have H3 := Lib.hid h3
   have HMN := Lib.hid (map_next L k)
   have HLE := Lib.hid hlen
   have HC := Lib.hid (HF.out wr HBW.out k hlt)
   have HLT := Lib.hid hlt
   clear h1 h2 h3 hlen
   go_wp2_with (go_at_call 58; refine HC.out.mono ?_; rintro e w1 ⟨v1, rfl, ho1, b1⟩; obtain ⟨rA, rc, rfl⟩ := own_form ho1; have HO1 := Lib.hid (own_lower ho1 HBE.out.size); have HB1 := Lib.hid b1; clear ho1 b1; go_wp2_with (at_builtin; go_loud (refine wpList_append_own _ rfl _ _ 38 rfl W0.heap.size 42 iR (.slice none 0 0) 1 24 Tryz.underlying38 hiR hzR0 hzR1 hzR2 rfl (by decide) _ k rs rfl (own_on H2.out (to_ HB1.out (alloc_ _ _))) ⟨w1.heap.size, 0, none⟩ 1 1 [.slice rA (L k).length rc] rfl rfl (one_new w1 _ 42) (by simp [Value.oneCell']) (by unfold maxLen; omega) (by omega) (by have := HBE.out.size; have := HB1.out.size; simp; omega) ?_; intro v' w' h2 h3 _; have G2 := Lib.hid h2; have G3 := Lib.hid h3; clear h2 h3)))
   go_roundw
   case rel =>
    refine ⟨k + 1, by have := HLT.out; omega, by go_num, Lib.hid ?_, Lib.hid ((to_ HBE.out (to_ HB1.out (alloc_ _ _))).grown G3.out (to_ HBE.out (to_ HB1.out (alloc_ _ _))).size fun r e => (H2.out.lt r e).1)⟩
    rw [HMN.out]
    exact OutI.more (by rw [HLE.out]; exact H1.out) (by rw [HLE.out]; exact own_on H2.out HB1.out) (fun i x hi => own_on (H3.out i x hi) HB1.out) HO1.out (by rw [HLE.out]; exact G2.out) G3.out
   case measure => have := HLT.out; simp [intOf]; omega
  ·obtain rfl : fn = k := by omega
   go_wp2_with fail
   go_ret
   exact ⟨_, rfl, HOU.out.lower HB0.out.size, HBW.out⟩
end Go.Proofs.YtnenmgefgdpkdaaGreat.Bo
