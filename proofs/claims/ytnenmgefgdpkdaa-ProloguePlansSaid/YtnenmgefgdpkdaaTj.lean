/-
  WALKS of layer 28: Full: the document's.
-/
import Derived.Test.YtnenmgefgdpkdaaTi
import Derived.Test.YtnenmgefgdpkdaaQh
namespace Go.Proofs.Ytnenmgefgdpkdaa.Bo
open Go.RowKit Go.Maps
open Mem Rf
set_option linter.unusedSimpArgs false
set_option linter.unusedVariables false

/-- What stands while the document's plan is made. -/
structure FilR (w wr : World) (PC : Array Value) (v1 v2 : Value) (k1 k2 : Nat) (f : Nat → Bool) (g : Nat → Int) : Prop where
  low : Below w.heap.size w wr
  prog : Blk wr w.heap.size 34 PC
  res : Blk wr (w.heap.size + 1) 29 #[.slice none 0 0, .slice none 0 0]
  box : Blk wr (w.heap.size + 1 + 1) 29 #[v1, v2]
  r1 : wr.ownsRow (w.heap.size + 3) 4 1 v1 k1 (((List.range k1).map f).flatMap encB)
  r2 : wr.ownsRow (w.heap.size + 3) 3 1 v2 k2 (((List.range k2).map g).flatMap encI)
section
variable {w wr w6 : World} {PC : Array Value} {v1 v2 v' : Value} {k1 k2 : Nat} {f : Nat → Bool} {g : Nat → Int}
theorem FilR.on (h : FilR w wr PC v1 v2 k1 k2 f g) (hb : Below wr.heap.size wr w6) : FilR w w6 PC v1 v2 k1 k2 f g :=
  ⟨to_ h.low hb, h.prog.below hb h.prog.lt, h.res.below hb h.res.lt, h.box.below hb h.box.lt, own_on h.r1 hb, own_on h.r2 hb⟩
theorem FilR.drew (h : FilR w wr PC v1 v2 k1 k2 f g) : FilR w wr.drew PC v1 v2 k1 k2 f g := h.on (Below.refl _ _).drew
theorem mapB_more (k : Nat) (f : Nat → Bool) : ((List.range (k + 1)).map f).flatMap encB = ((List.range k).map f).flatMap encB ++ [.bool (f k)] := by rw [List.range_succ, List.map_append, List.flatMap_append]; rfl
theorem mapI_more (k : Nat) (f : Nat → Int) : ((List.range (k + 1)).map f).flatMap encI = ((List.range k).map f).flatMap encI ++ [.int .i64 (f k)] := by rw [List.range_succ, List.map_append, List.flatMap_append]; rfl
theorem FilR.app1 (h : FilR w wr PC v1 v2 k1 k2 f g) (o : Obj) (h2 : w6.ownsRow (w.heap.size + 3) 4 1 v' (k1 + 1) (((List.range k1).map f).flatMap encB ++ [.bool (f k1)])) (h3 : (wr.alloc o).grownBy w6 v1.ownBlock) :
    FilR w (w6.setCell ⟨w.heap.size + 1 + 1, 0, none⟩ v') PC v' v2 (k1 + 1) k2 f g ∧ w6.cell? ⟨w.heap.size + 1 + 1, 0, none⟩ = some v1 ∧ w6.frozen? ⟨w.heap.size + 1 + 1, 0, none⟩ = false := by
  have hq := h.on (alloc_ wr o)
  have hb := blk_grown hq.box h3 (own_ne h.r1 (by omega))
  have hs := hb.stored 0 v'
  refine ⟨⟨?_, ?_, ?_, hs, ?_, ?_⟩, hb.cell 0, hb.frozen 0⟩
  · exact far_below (hq.low.grown h3 hq.low.size fun r e => by have := (h.r1.lt r e).1; omega) (by omega)
  · exact far_blk (blk_grown hq.prog h3 (own_ne h.r1 (by omega))) (by omega)
  · exact far_blk (blk_grown hq.res h3 (own_ne h.r1 (by omega))) (by omega)
  · rw [mapB_more]; exact own_cell h2 _ _ (by show w.heap.size + 1 + 1 < _; omega)
  · exact own_cell (own_apart hq.r2 (own_on h.r1 (alloc_ wr o)) (by decide) h3) _ _ (by show w.heap.size + 1 + 1 < _; omega)
theorem FilR.app2 (h : FilR w wr PC v1 v2 k1 k2 f g) (o : Obj) (h2 : w6.ownsRow (w.heap.size + 3) 3 1 v' (k2 + 1) (((List.range k2).map g).flatMap encI ++ [.int .i64 (g k2)])) (h3 : (wr.alloc o).grownBy w6 v2.ownBlock) :
    FilR w (w6.setCell ⟨w.heap.size + 1 + 1, 1, none⟩ v') PC v1 v' k1 (k2 + 1) f g ∧ w6.cell? ⟨w.heap.size + 1 + 1, 1, none⟩ = some v2 ∧ w6.frozen? ⟨w.heap.size + 1 + 1, 1, none⟩ = false := by
  have hq := h.on (alloc_ wr o)
  have hb := blk_grown hq.box h3 (own_ne h.r2 (by omega))
  have hs := hb.stored 1 v'
  refine ⟨⟨?_, ?_, ?_, hs, ?_, ?_⟩, hb.cell 1, hb.frozen 1⟩
  · exact far_below (hq.low.grown h3 hq.low.size fun r e => by have := (h.r2.lt r e).1; omega) (by omega)
  · exact far_blk (blk_grown hq.prog h3 (own_ne h.r2 (by omega))) (by omega)
  · exact far_blk (blk_grown hq.res h3 (own_ne h.r2 (by omega))) (by omega)
  · exact own_cell (own_apart hq.r1 (own_on h.r2 (alloc_ wr o)) (by decide) h3) _ _ (by show w.heap.size + 1 + 1 < _; omega)
  · rw [mapI_more]; exact own_cell h2 _ _ (by show w.heap.size + 1 + 1 < _; omega)
theorem plA_own {n : Nat} {W : World} (h : FilR w wr PC v1 v2 n n f g) (hW : W = (wr.setCell ⟨w.heap.size + 1, 0, none⟩ v1).setCell ⟨w.heap.size + 1, 1, none⟩ v2) : plA w n f g (.returned (.agg #[v1, v2])) W := by
  subst hW
  have hb := far_below (y := v2) (j := 1) (far_below (y := v1) (j := 0) h.low (b' := w.heap.size + 1) (by omega)) (b' := w.heap.size + 1) (by omega)
  have r1 := own_cell (own_cell h.r1 ⟨w.heap.size + 1, 0, none⟩ v1 (by show w.heap.size + 1 < _; omega)) ⟨w.heap.size + 1, 1, none⟩ v2 (by show w.heap.size + 1 < _; omega)
  have r2 := own_cell (own_cell h.r2 ⟨w.heap.size + 1, 0, none⟩ v1 (by show w.heap.size + 1 < _; omega)) ⟨w.heap.size + 1, 1, none⟩ v2 (by show w.heap.size + 1 < _; omega)
  obtain ⟨A1, c1, rfl, g1⟩ := wd_own encB_len (by simp) r1
  obtain ⟨A2, c2, rfl, g2⟩ := wd_own encI_len (by simp) r2
  exact ⟨⟨_, _, _, _, _, _, _, _⟩, rfl, ⟨g1, g2⟩, rfl, rfl, hb⟩
end

set_option maxRecDepth 100000 in
set_option maxHeartbeats 4000000 in
theorem rfull_any (w : World) (P : Pgm) (hfr : Wd 13 encGf w w.heap.size P.fA P.fn P.fc P.fs) (hfn : P.fn ≤ 1000) : Calls Try.prog 18 #[pgV P] w (plA w P.fn kpAll (ckFull P)) := by
  have HGF := Lib.hid (fun W (hb : Below w.heap.size w W) a (ha : a < P.fn) => gf_at (hfr.below hb) ha)
  obtain ⟨ff, hff⟩ : ∃ x, kpAll = x := ⟨_, rfl⟩
  obtain ⟨gg, hgg⟩ : ∃ x, (ckFull P) = x := ⟨_, rfl⟩
  rw [hff, hgg]
  have HFF := Lib.hid hff
  have HGG := Lib.hid hgg
  clear hff hgg hfr
  obtain ⟨fA, fn, fc, fs, dA, dn, dc, ds, en, cs⟩ := P
  unfold pgV
  dsimp only at HGF hfn ⊢
  have HN := Lib.hid hfn
  obtain ⟨iN, hiN, hzN0, hzN1, hzN2⟩ := info_split infoInt
  obtain ⟨iB, hiB, hzB0, hzB1, hzB2⟩ := info_split infoBool
  obtain ⟨W0, hW0⟩ : ∃ W0, ((w.alloc (.cells #[.slice fA fn fc, .slice dA dn dc, .int .i64 en] 34)).alloc (.cells #[.slice none 0 0, .slice none 0 0] 29)).alloc (.cells #[.slice none 0 0, .slice none 0 0] 29) = W0 := ⟨_, rfl⟩
  have HF0 := Lib.hid (show FilR w W0 #[.slice fA fn fc, .slice dA dn dc, .int .i64 en] (.slice none 0 0) (.slice none 0 0) 0 0 ff gg from by
    rw [← hW0]
    refine ⟨to_ (alloc_ _ _) (to_ (alloc_ _ _) (alloc_ _ _)), ((Blk.new _ _ _).alloc _).alloc _, ?_, ?_, World.ownsRow_nil _ _ _ _, World.ownsRow_nil _ _ _ _⟩
    · have := (Blk.new (w.alloc (.cells #[.slice fA fn fc, .slice dA dn dc, .int .i64 en] 34)) 29 #[.slice none 0 0, .slice none 0 0]).alloc (.cells #[.slice none 0 0, .slice none 0 0] 29)
      rwa [World.size_alloc] at this
    · have := Blk.new ((w.alloc (.cells #[.slice fA fn fc, .slice dA dn dc, .int .i64 en] 34)).alloc (.cells #[.slice none 0 0, .slice none 0 0] 29)) 29 #[.slice none 0 0, .slice none 0 0]
      rwa [World.size_alloc, World.size_alloc] at this)
  go_enter Try.func18, Try.ntmps18
  go_wp2_with fail
  clear hW0
  go_loopw [4] (fun i9 wr => ∃ (k : Nat) (v1 v2 : Value), k ≤ fn ∧ i9 = .int .i64 (k : Int) ∧ Hid (FilR w wr #[.slice fA fn fc, .slice dA dn dc, .int .i64 en] v1 v2 k k ff gg)) (fun i9 _ => fn - (intOf i9).toNat)
  case atStart => exact ⟨0, _, _, Nat.zero_le _, rfl, HF0⟩
  case round =>
    obtain ⟨k, v1, v2, hk, rfl, HF⟩ := hrel
    have d0 : wr.cell? ⟨w.heap.size, 0, none⟩ = some (.slice fA fn fc) := HF.out.prog.cell 0
    by_cases hlt : k < fn
    · have hkI : (k : Int) < (fn : Int) := by omega
      have hk0 : (0 : Int) ≤ (k : Int) := by omega
      have HLT := Lib.hid hlt
      have HFK := Lib.hid (congrFun HFF.out k)
      have HGK := Lib.hid (congrFun HGG.out k)
      unfold kpAll at HFK
      unfold ckFull at HGK
      dsimp only at HFK HGK
      have e0 : wr.cell? ⟨w.heap.size + 1 + 1, 0, none⟩ = some v1 := HF.out.box.cell 0
      obtain ⟨b, hb⟩ : ∃ b, (gfAt fs k).F.no = b := ⟨_, rfl⟩
      have HNB := Lib.hid hb
      rw [hb] at HGK
      clear hb
      cases b with
      | true =>
        have HG0 := Lib.hid (show (0 : Int) = gg k from by rw [← HGK.out]; rfl)
        go_wp2_with (at_builtin; go_loud (refine wpList_append_own _ rfl _ _ 26 rfl (w.heap.size + 3) 4 iB (.bool false) 1 1 Try.underlying26 hiB hzB0 hzB1 hzB2 rfl (by decide) _ k (((List.range k).map ff).flatMap encB) rfl (own_on HF.out.r1 (alloc_ _ _)) ⟨wr.heap.size, 0, none⟩ 1 1 [.bool true] rfl rfl (one_new wr _ 4) (by simp [Value.oneCell']) (by unfold maxLen; omega) (by omega) (by have := HF.out.box.lt; simp; omega) ?_; intro v' w6 h2 h3 _; have HP1 := Lib.hid (HF.out.app1 (.cells #[.bool true] 4) (v' := v') (by rw [← HFK.out]; exact h2) h3); clear h2 h3; obtain ⟨B1, x1, rfl⟩ := own_form HP1.out.1.r1; obtain ⟨wA, hwA⟩ : ∃ x, w6.setCell ⟨w.heap.size + 1 + 1, 0, none⟩ (.slice B1 (k + 1) x1) = x := ⟨_, rfl⟩; have q0 := HP1.out.2.1; have q1 := HP1.out.2.2; have HP2 := Lib.hid (show FilR w wA #[.slice fA fn fc, .slice dA dn dc, .int .i64 en] (.slice B1 (k + 1) x1) v2 (k + 1) k ff gg from by rw [← hwA]; exact HP1.out.1); have d1 : wA.cell? ⟨w.heap.size, 0, none⟩ = some (.slice fA fn fc) := HP2.out.prog.cell 0; have d2 : wA.cell? ⟨w.heap.size + 1 + 1, 1, none⟩ = some v2 := HP2.out.box.cell 1; obtain ⟨ad, rfl, hz9, -, hfc⟩ := HGF.out wA HP2.out.low k hlt; have f6 : wA.cell? ⟨(ad.add (k * 13)).block, (ad.add (k * 13)).off + 6, none⟩ = some (.bool true) := (hfc 5 _ rfl).trans (congrArg (fun z => some (Value.bool z)) HNB.out); clear hfc hz9; go_wp2_with (at_builtin; go_loud (refine wpList_append_own _ rfl _ _ 27 rfl (w.heap.size + 3) 3 iN (.int .i64 0) 1 8 Try.underlying27 hiN hzN0 hzN1 hzN2 rfl (by decide) _ k (((List.range k).map gg).flatMap encI) rfl (own_on HP2.out.r2 (alloc_ _ _)) ⟨wA.heap.size, 0, none⟩ 1 1 [.int .i64 0] rfl rfl (one_new wA _ 3) (by simp [Value.oneCell']) (by unfold maxLen; omega) (by omega) (by have := HP2.out.box.lt; simp; omega) ?_; intro v9 w8 h4 h5 _; have HP3 := Lib.hid (HP2.out.app2 (.cells #[.int .i64 0] 3) (v' := v9) (by rw [← HG0.out]; exact h4) h5); clear h4 h5; obtain ⟨B2, x2, rfl⟩ := own_form HP3.out.1.r2; obtain ⟨wB, hwB⟩ : ∃ x, w8.setCell ⟨w.heap.size + 1 + 1, 1, none⟩ (.slice B2 (k + 1) x2) = x := ⟨_, rfl⟩; have q2 := HP3.out.2.1; have q3 := HP3.out.2.2; have HP4 := Lib.hid (show FilR w wB #[.slice (some ad) fn fc, .slice dA dn dc, .int .i64 en] (.slice B1 (k + 1) x1) (.slice B2 (k + 1) x2) (k + 1) (k + 1) ff gg from by rw [← hwB]; exact HP3.out.1)))))
        go_roundw
        case rel => exact ⟨k + 1, _, _, by have := HLT.out; omega, by go_num, HP4⟩
        case measure => have := HLT.out; simp [intOf]; omega
      | false =>
        have HG0 := Lib.hid (show (3 : Int) = gg k from by rw [← HGK.out]; rfl)
        go_wp2_with (at_builtin; go_loud (refine wpList_append_own _ rfl _ _ 26 rfl (w.heap.size + 3) 4 iB (.bool false) 1 1 Try.underlying26 hiB hzB0 hzB1 hzB2 rfl (by decide) _ k (((List.range k).map ff).flatMap encB) rfl (own_on HF.out.r1 (alloc_ _ _)) ⟨wr.heap.size, 0, none⟩ 1 1 [.bool true] rfl rfl (one_new wr _ 4) (by simp [Value.oneCell']) (by unfold maxLen; omega) (by omega) (by have := HF.out.box.lt; simp; omega) ?_; intro v' w6 h2 h3 _; have HP1 := Lib.hid (HF.out.app1 (.cells #[.bool true] 4) (v' := v') (by rw [← HFK.out]; exact h2) h3); clear h2 h3; obtain ⟨B1, x1, rfl⟩ := own_form HP1.out.1.r1; obtain ⟨wA, hwA⟩ : ∃ x, w6.setCell ⟨w.heap.size + 1 + 1, 0, none⟩ (.slice B1 (k + 1) x1) = x := ⟨_, rfl⟩; have q0 := HP1.out.2.1; have q1 := HP1.out.2.2; have HP2 := Lib.hid (show FilR w wA #[.slice fA fn fc, .slice dA dn dc, .int .i64 en] (.slice B1 (k + 1) x1) v2 (k + 1) k ff gg from by rw [← hwA]; exact HP1.out.1); have d1 : wA.cell? ⟨w.heap.size, 0, none⟩ = some (.slice fA fn fc) := HP2.out.prog.cell 0; have d2 : wA.cell? ⟨w.heap.size + 1 + 1, 1, none⟩ = some v2 := HP2.out.box.cell 1; obtain ⟨ad, rfl, hz9, -, hfc⟩ := HGF.out wA HP2.out.low k hlt; have f6 : wA.cell? ⟨(ad.add (k * 13)).block, (ad.add (k * 13)).off + 6, none⟩ = some (.bool false) := (hfc 5 _ rfl).trans (congrArg (fun z => some (Value.bool z)) HNB.out); clear hfc hz9; go_wp2_with (at_builtin; go_loud (refine wpList_append_own _ rfl _ _ 27 rfl (w.heap.size + 3) 3 iN (.int .i64 0) 1 8 Try.underlying27 hiN hzN0 hzN1 hzN2 rfl (by decide) _ k (((List.range k).map gg).flatMap encI) rfl (own_on HP2.out.r2 (alloc_ _ _)) ⟨wA.heap.size, 0, none⟩ 1 1 [.int .i64 3] rfl rfl (one_new wA _ 3) (by simp [Value.oneCell']) (by unfold maxLen; omega) (by omega) (by have := HP2.out.box.lt; simp; omega) ?_; intro v9 w8 h4 h5 _; have HP3 := Lib.hid (HP2.out.app2 (.cells #[.int .i64 3] 3) (v' := v9) (by rw [← HG0.out]; exact h4) h5); clear h4 h5; obtain ⟨B2, x2, rfl⟩ := own_form HP3.out.1.r2; obtain ⟨wB, hwB⟩ : ∃ x, w8.setCell ⟨w.heap.size + 1 + 1, 1, none⟩ (.slice B2 (k + 1) x2) = x := ⟨_, rfl⟩; have q2 := HP3.out.2.1; have q3 := HP3.out.2.2; have HP4 := Lib.hid (show FilR w wB #[.slice (some ad) fn fc, .slice dA dn dc, .int .i64 en] (.slice B1 (k + 1) x1) (.slice B2 (k + 1) x2) (k + 1) (k + 1) ff gg from by rw [← hwB]; exact HP3.out.1)))))
        go_roundw
        case rel => exact ⟨k + 1, _, _, by have := HLT.out; omega, by go_num, HP4⟩
        case measure => have := HLT.out; simp [intOf]; omega
    · obtain rfl : k = fn := by omega
      obtain ⟨A1, c1, rfl⟩ := own_form HF.out.r1
      obtain ⟨A2, c2, rfl⟩ := own_form HF.out.r2
      have e0 : wr.cell? ⟨w.heap.size + 1 + 1, 0, none⟩ = some (.slice A1 k c1) := HF.out.box.cell 0
      have e1 : wr.cell? ⟨w.heap.size + 1 + 1, 1, none⟩ = some (.slice A2 k c2) := HF.out.box.cell 1
      have e2 : wr.cell? ⟨w.heap.size + 1, 0, none⟩ = some (.slice none 0 0) := HF.out.res.cell 0
      have e3 : wr.cell? ⟨w.heap.size + 1, 1, none⟩ = some (.slice none 0 0) := HF.out.res.cell 1
      have e4 := HF.out.res.frozen 0
      have e5 := HF.out.res.frozen 1
      have hr := (HF.out.res.stored 0 (.slice A1 k c1)).stored 1 (.slice A2 k c2)
      have HR0 := Lib.hid (show ((wr.setCell ⟨w.heap.size + 1, 0, none⟩ (.slice A1 k c1)).setCell ⟨w.heap.size + 1, 1, none⟩ (.slice A2 k c2)).cell? ⟨w.heap.size + 1, 0, none⟩ = some (.slice A1 k c1) from (hr.cell 0).trans (by simp))
      have HR1 := Lib.hid (show ((wr.setCell ⟨w.heap.size + 1, 0, none⟩ (.slice A1 k c1)).setCell ⟨w.heap.size + 1, 1, none⟩ (.slice A2 k c2)).cell? ⟨w.heap.size + 1, 1, none⟩ = some (.slice A2 k c2) from (hr.cell 1).trans (by simp))
      clear hr
      go_wp2_with fail
      refine bodyPost_ret (v := .agg #[.slice A1 k c1, .slice A2 k c2]) (by simp [results, Try.results18, go_sem, HR0.out, HR1.out]) rfl ?_
      exact plA_own HF.out rfl
end Go.Proofs.Ytnenmgefgdpkdaa.Bo
