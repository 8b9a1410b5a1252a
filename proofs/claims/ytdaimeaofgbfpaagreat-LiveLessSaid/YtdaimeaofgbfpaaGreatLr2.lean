/-
 Lr2
-/
import Derived.Test.YtdaimeaofgbfpaaGreatZa2
import Derived.Test.YtdaimeaofgbfpaaGreatLu2
set_option linter.unusedSimpArgs false
set_option linter.unusedVariables false
namespace Go.Proofs.YtdaimeaofgbfpaaGreat.Bo
open Go.RowKit Go.Maps
open Mem Rf
attribute [local go_sem] Oper.semAt_some
set_option maxRecDepth 100000 in
set_option maxHeartbeats 16000000 in
theorem graph_any (w : World) (P : Pgm) (h : PgR w P) : Calls Tryz.prog 22 #[pgV P] w (RowsA w P.fn (graphG P)) := by
 have HDI := Hd (fun W (hb : Below w.heap.size w W) => direct_tells W P (h.on hb))
 have HVI := Hd (fun W (hb : Below w.heap.size w W) => vias_tells W P (h.on hb))
 have HTA := Hd (fun W (hb : Below w.heap.size w W) => tbc_any W P (h.on hb))
 have HLI := Hd (fun W (hb : Below w.heap.size w W) => live_any W P (h.on hb))
 have hfn := h.few.1
 have hmk := By.make_rows P.fn (by omega)
 have HGC := Hd (gclean P)
 have HSM := Hd (gsmall P hfn)
 have HGN := Hd (gRows_len P)
 have HGR := Hd (fun i (hi : i < P.fn) => gRows_row (P := P) hi)
 have HDL := Hd (show ((List.range P.fn).map (directL P)).length = P.fn from by simp)
 have HVL := Hd (show ((List.range P.fn).map (viasL P)).length = P.fn from by simp)
 have HDR := Hd (fun i (hi : i < P.fn) => show By.rowOf ((List.range P.fn).map (directL P)) i = directL P i from map_row hi)
 have HVW := Hd (fun i (hi : i < P.fn) => show By.rowOf ((List.range P.fn).map (viasL P)) i = viasL P i from map_row hi)
 have HVC := Hd (fun i j (hj : j < (viasL P i).length) => (show ∃ c : Nat, c < 8 ∧ (viasL P i).getD j 0 = (c : Int) from rise_at hj))
 have HVN := Hd (fun i => show (viasL P i).length ≤ 1000 from Nat.le_trans (rise_len _ _) (by omega))
 have HTN := Hd (fun c => show (By.rowOf (tcG P) c).length ≤ 1000 from Nat.le_trans (tc_row_len P c) (by omega))
 have HRN := Hd (fun i => oc_all P hfn i)
 clear h
 generalize graphG P = G at HGC ⊢
 generalize gRows P = GR at HGC HSM HGN HGR
 generalize (List.range P.fn).map (directL P) = D at HDI HDL HDR
 generalize (List.range P.fn).map (viasL P) = V at HVI HVL HVW
 generalize directL P = Df at HDR HGR HRN
 generalize viasL P = Vf at HVW HGR HVC HVN HRN
 generalize tcG P = T at HTA HGR HTN HRN
 generalize liveB P = f at HLI HGR
 obtain ⟨fA, fn, fc, fs, dA, dn, dc, ds, en, cs⟩ := P
 unfold pgV at HDI HVI HTA HLI ⊢
 dsimp only at HDI HVI HTA HLI HDL HVL HDR HVW HGN HGR hfn hmk ⊢
 obtain ⟨W0, hW0⟩ : ∃ W0, w.alloc (.cells #[.slice fA fn fc, .slice dA dn dc, .int .i64 en] 29) = W0 := ⟨_, rfl⟩
 have HB0 := Hd (show Below w.heap.size w W0 from by rw [← hW0]; exact alloc_ _ _)
 have HBK := Hd (show Blk W0 w.heap.size 29 #[.slice fA fn fc, .slice dA dn dc, .int .i64 en] from by rw [← hW0]; exact Blk.new _ _ _)
 refine (callsIn_wide (n := 6)).1 ?_
 refine callsIn_of_wp_marks Tryz.func22 rfl trivial ?_ rfl
 simp only [Tryz.ntmps22, List.size_toArray, List.length_cons, List.length_nil, Nat.reduceAdd, Nat.reduceSub, Array.replicate_succ, Array.replicate_zero, List.push_toArray, List.append_toArray, List.nil_append, List.cons_append]
 gi_wp2_with fail
 clear hW0
 refine wpIn_wide.2 (wp_region_noPanic ?_)
 refine wp_region_inv (by kernel_rfl) (fun l a X => ∃ (b0 b1 b2 b3 b4 b5 b6 b7 b8 b9 b10 b11 : Bool) (s3 s4 s5 s9 s10 s11 s12 s13 s14 : Value) (l1 h1 l2 h2 l3 h3 p1 p2 p3 : Nat), l = #[b0, b1, b2, b3, b4, b5, b6, b7, b8, b9, b10, b11] ∧ a = { tmps := #[.agg #[.slice fA fn fc, .slice dA dn dc, .int .i64 en], .pointer (some ⟨w.heap.size, 0, none⟩), .slice none 0 0, s3, s4, s5, undef, undef, undef, s9, s10, s11, s12, s13, s14, undef, undef, undef, undef, undef, undef, undef, undef, undef, undef, undef, undef, undef, undef, undef, undef, undef, undef, undef, undef, undef, undef, undef, undef, undef, undef, undef, undef, undef, undef, undef, undef, undef, undef], defers := [] } ∧ Hid (Below W0.heap.size W0 X) ∧
   (b0 = true → s9 = .agg #[.slice fA fn fc, .slice dA dn dc, .int .i64 en]) ∧ (b2 = true → s11 = .agg #[.slice fA fn fc, .slice dA dn dc, .int .i64 en]) ∧ (b4 = true → s13 = .agg #[.slice fA fn fc, .slice dA dn dc, .int .i64 en]) ∧ Hid (HOp b1 b3 b5 b6 b7 b8 b9 b10 b11 = true) ∧ Hid (Bxs X W0.heap.size (FRd fn D) (FRw fn V) (FAr T) b1 b3 b5 b6 b7 b8 b9 b10 b11 s3 s4 s5 s10 s12 s14 l1 h1 l2 h2 l3 h3 p1 p2 p3)) ?_ ?_ ?_
 ·exact ⟨false, false, false, false, false, false, false, false, false, false, false, false, undef, undef, undef, undef, undef, undef, undef, undef, undef, 0, 0, 0, 0, 0, 0, 0, 0, 0, rfl, rfl, Hd (Below.refl _ _).drew, by simp, by simp, by simp, Hd rfl, Hd (by constructor <;> (intro hh; cases hh))⟩
 ·rintro l a X ⟨b0, b1, b2, b3, b4, b5, b6, b7, b8, b9, b10, b11, s3, s4, s5, s9, s10, s11, s12, s13, s14, l1, h1, l2, h2, l3, h3, p1, p2, p3, rfl, rfl, HBE, h9, h11, h13, HO, HS⟩ i o ho hl hd
  have hi : i < 12 := (Array.getElem?_eq_some_iff.1 ho).1
  have hc : i = 0 ∨ i = 1 ∨ i = 2 ∨ i = 3 ∨ i = 4 ∨ i = 5 ∨ i = 6 ∨ i = 7 ∨ i = 8 ∨ i = 9 ∨ i = 10 ∨ i = 11 := by omega
  clear hi
  rcases hc with rfl | rfl | rfl | rfl | rfl | rfl | rfl | rfl | rfl | rfl | rfl | rfl
  ·obtain rfl := Option.some.inj ho
   clear ho
   have q := HBK.out.below HBE.out HBK.out.lt
   have x0 := q.cell 0
   have x1 := q.cell 1
   have x2 := q.cell 2
   simp at x0 x1 x2
   refine wpOp_stepS rfl (fun K hK => ?_)
   go_simp
   exact hK.out _ _ ⟨true, b1, b2, b3, b4, b5, b6, b7, b8, b9, b10, b11, s3, s4, s5, .agg #[.slice fA fn fc, .slice dA dn dc, .int .i64 en], s10, s11, s12, s13, s14, l1, h1, l2, h2, l3, h3, p1, p2, p3, rfl, rfl, HBE, (fun _ => rfl), h11, h13, HO, HS⟩
  ·obtain rfl := Option.some.inj ho
   clear ho
   have e0 : b0 = true := hd ⟨0, .data⟩ (by simp) rfl
   obtain rfl := h9 e0
   have hbw := to_ HB0.out HBE.out
   have ht : b9 = false := by have q := ho_t1 _ _ _ _ _ _ _ _ _ HO.out; simp at hl; subst hl; revert q; cases b9 <;> simp
   refine wpOp_stepS rfl (fun K hK => ?_)
   go_simp
   refine (HDI.out X hbw).mono ?_
   rintro e w2 ⟨rb, base, rfl, hg, h1q, h2q, hb⟩
   try go_wp2_with fail
   exact hK.out _ _ ⟨b0, true, b2, b3, b4, b5, b6, b7, b8, b9, b10, b11, s3, s4, s5, .agg #[.slice fA fn fc, .slice dA dn dc, .int .i64 en], _, s11, s12, s13, s14, X.heap.size, w2.heap.size, l2, h2, l3, h3, p1, p2, p3, rfl, rfl, (Hd (to_ HBE.out hb)), (fun _ => rfl), h11, h13, (Hd (ho_1 _ _ _ _ _ _ _ _ _ HO.out)), Hd ⟨fun _ => ⟨HBE.out.size, Nat.le_refl _, fun Y hY => FRd.of hg h1q h2q HDL.out hY⟩, HS.out.r2.below hb, HS.out.r3.below hb, unt (HS.out.q1.below hb) ht, HS.out.q2.below hb, HS.out.q3.below hb, HS.out.q1.apt, HS.out.x12, HS.out.x13, HS.out.q2.apt, HS.out.x22, HS.out.x23, HS.out.q3.apt, HS.out.x32, HS.out.x33, HS.out.y12, HS.out.y13, HS.out.y23, HS.out.r2.apr.symm, HS.out.r3.apr.symm⟩⟩
  ·obtain rfl := Option.some.inj ho
   clear ho
   have q := HBK.out.below HBE.out HBK.out.lt
   have x0 := q.cell 0
   have x1 := q.cell 1
   have x2 := q.cell 2
   simp at x0 x1 x2
   refine wpOp_stepS rfl (fun K hK => ?_)
   go_simp
   exact hK.out _ _ ⟨b0, b1, true, b3, b4, b5, b6, b7, b8, b9, b10, b11, s3, s4, s5, s9, s10, .agg #[.slice fA fn fc, .slice dA dn dc, .int .i64 en], s12, s13, s14, l1, h1, l2, h2, l3, h3, p1, p2, p3, rfl, rfl, HBE, h9, (fun _ => rfl), h13, HO, HS⟩
  ·obtain rfl := Option.some.inj ho
   clear ho
   have e0 : b2 = true := hd ⟨2, .data⟩ (by simp) rfl
   obtain rfl := h11 e0
   have hbw := to_ HB0.out HBE.out
   have ht : b10 = false := by have q := ho_t1 _ _ _ _ _ _ _ _ _ HO.out; simp at hl; subst hl; revert q; cases b10 <;> simp
   refine wpOp_stepS rfl (fun K hK => ?_)
   go_simp
   refine (HVI.out X hbw).mono ?_
   rintro e w2 ⟨rb, base, rfl, hg, h1q, h2q, hb⟩
   try go_wp2_with fail
   exact hK.out _ _ ⟨b0, b1, b2, true, b4, b5, b6, b7, b8, b9, b10, b11, s3, s4, s5, s9, s10, .agg #[.slice fA fn fc, .slice dA dn dc, .int .i64 en], _, s13, s14, l1, h1, X.heap.size, w2.heap.size, l3, h3, p1, p2, p3, rfl, rfl, (Hd (to_ HBE.out hb)), h9, (fun _ => rfl), h13, (Hd (ho_3 _ _ _ _ _ _ _ _ _ HO.out)), Hd ⟨HS.out.r1.below hb, fun _ => ⟨HBE.out.size, Nat.le_refl _, fun Y hY => ⟨rb, base, rfl, h1q, hg.lt, h2q, hg.keep fun g hge hl => hY.block g ⟨by omega, hl⟩ hl⟩⟩, HS.out.r3.below hb, HS.out.q1.below hb, unt (HS.out.q2.below hb) ht, HS.out.q3.below hb, HS.out.x11, HS.out.q1.apt, HS.out.x13, HS.out.x21, HS.out.q2.apt, HS.out.x23, HS.out.x31, HS.out.q3.apt, HS.out.x33, HS.out.y12, HS.out.y13, HS.out.y23, HS.out.r1.apr, HS.out.z13⟩⟩
  ·obtain rfl := Option.some.inj ho
   clear ho
   have q := HBK.out.below HBE.out HBK.out.lt
   have x0 := q.cell 0
   have x1 := q.cell 1
   have x2 := q.cell 2
   simp at x0 x1 x2
   refine wpOp_stepS rfl (fun K hK => ?_)
   go_simp
   exact hK.out _ _ ⟨b0, b1, b2, b3, true, b5, b6, b7, b8, b9, b10, b11, s3, s4, s5, s9, s10, s11, s12, .agg #[.slice fA fn fc, .slice dA dn dc, .int .i64 en], s14, l1, h1, l2, h2, l3, h3, p1, p2, p3, rfl, rfl, HBE, h9, h11, (fun _ => rfl), HO, HS⟩
  ·obtain rfl := Option.some.inj ho
   clear ho
   have e0 : b4 = true := hd ⟨4, .data⟩ (by simp) rfl
   obtain rfl := h13 e0
   have hbw := to_ HB0.out HBE.out
   have ht : b11 = false := by have q := ho_t1 _ _ _ _ _ _ _ _ _ HO.out; simp at hl; subst hl; revert q; cases b11 <;> simp
   refine wpOp_stepS rfl (fun K hK => ?_)
   go_simp
   refine (HTA.out X hbw).mono ?_
   rintro e w2 ⟨sl, rfl, hil, hb, hlo⟩
   try go_wp2_with fail
   exact hK.out _ _ ⟨b0, b1, b2, b3, b4, true, b6, b7, b8, b9, b10, b11, s3, s4, s5, s9, s10, s11, s12, .agg #[.slice fA fn fc, .slice dA dn dc, .int .i64 en], _, l1, h1, l2, h2, X.heap.size, w2.heap.size, p1, p2, p3, rfl, rfl, (Hd (to_ HBE.out hb)), h9, h11, (fun _ => rfl), (Hd (ho_5 _ _ _ _ _ _ _ _ _ HO.out (hd ⟨3, .chain⟩ (by simp) rfl))), Hd ⟨HS.out.r1.below hb, HS.out.r2.below hb, fun _ => ⟨HBE.out.size, Nat.le_refl _, fun Y hY => ⟨sl, rfl, fun c hc i hi => by obtain ⟨ad, e1, e2, e3⟩ := (hil c hc).at_ hi; exact ⟨ad, e1, hY.cell (by have := hlo c ad hc e1; exact ⟨by rw [add_block]; exact this, by rw [add_block]; exact e2⟩) e3⟩⟩⟩, HS.out.q1.below hb, HS.out.q2.below hb, unt (HS.out.q3.below hb) ht, HS.out.x11, HS.out.x12, HS.out.q1.apt, HS.out.x21, HS.out.x22, HS.out.q2.apt, HS.out.x31, HS.out.x32, HS.out.q3.apt, HS.out.y12, HS.out.y13, HS.out.y23, HS.out.z12, HS.out.r1.apr⟩⟩
  ·obtain rfl := Option.some.inj ho
   clear ho
   have ht : b9 = false := by have q := ho_t1 _ _ _ _ _ _ _ _ _ HO.out; simp at hl; subst hl; revert q; cases b9 <;> simp
   refine wpOp_stepS rfl (fun K hK => ?_)
   go_simp
   exact hK.out _ _ ⟨b0, b1, b2, b3, b4, b5, true, b7, b8, b9, b10, b11, .pointer (some ⟨X.heap.size, 0, none⟩), s4, s5, s9, s10, s11, s12, s13, s14, l1, h1, l2, h2, l3, h3, X.heap.size, p2, p3, rfl, rfl, (Hd (to_ HBE.out (alloc_ _ _))), h9, h11, h13, (Hd (ho_6 _ _ _ _ _ _ _ _ _ HO.out)), Hd ⟨HS.out.r1.below (alloc_ _ _), HS.out.r2.below (alloc_ _ _), HS.out.r3.below (alloc_ _ _), (by rw [ht]; exact BxP.new HBE.out.size), HS.out.q2.below (alloc_ _ _), HS.out.q3.below (alloc_ _ _), HS.out.r1.apt, HS.out.r2.apt, HS.out.r3.apt, HS.out.x21, HS.out.x22, HS.out.x23, HS.out.x31, HS.out.x32, HS.out.x33, HS.out.q2.nep.symm, HS.out.q3.nep.symm, HS.out.y23, HS.out.z12, HS.out.z13⟩⟩
  ·obtain rfl := Option.some.inj ho
   clear ho
   have ht : b10 = false := by have q := ho_t1 _ _ _ _ _ _ _ _ _ HO.out; simp at hl; subst hl; revert q; cases b10 <;> simp
   refine wpOp_stepS rfl (fun K hK => ?_)
   go_simp
   exact hK.out _ _ ⟨b0, b1, b2, b3, b4, b5, b6, true, b8, b9, b10, b11, s3, .pointer (some ⟨X.heap.size, 0, none⟩), s5, s9, s10, s11, s12, s13, s14, l1, h1, l2, h2, l3, h3, p1, X.heap.size, p3, rfl, rfl, (Hd (to_ HBE.out (alloc_ _ _))), h9, h11, h13, (Hd (ho_7 _ _ _ _ _ _ _ _ _ HO.out)), Hd ⟨HS.out.r1.below (alloc_ _ _), HS.out.r2.below (alloc_ _ _), HS.out.r3.below (alloc_ _ _), HS.out.q1.below (alloc_ _ _), (by rw [ht]; exact BxP.new HBE.out.size), HS.out.q3.below (alloc_ _ _), HS.out.x11, HS.out.x12, HS.out.x13, HS.out.r1.apt, HS.out.r2.apt, HS.out.r3.apt, HS.out.x31, HS.out.x32, HS.out.x33, HS.out.q1.nep, HS.out.y13, HS.out.q3.nep.symm, HS.out.z12, HS.out.z13⟩⟩
  ·obtain rfl := Option.some.inj ho
   clear ho
   have ht : b11 = false := by have q := ho_t1 _ _ _ _ _ _ _ _ _ HO.out; simp at hl; subst hl; revert q; cases b11 <;> simp
   refine wpOp_stepS rfl (fun K hK => ?_)
   go_simp
   exact hK.out _ _ ⟨b0, b1, b2, b3, b4, b5, b6, b7, true, b9, b10, b11, s3, s4, .pointer (some ⟨X.heap.size, 0, none⟩), s9, s10, s11, s12, s13, s14, l1, h1, l2, h2, l3, h3, p1, p2, X.heap.size, rfl, rfl, (Hd (to_ HBE.out (alloc_ _ _))), h9, h11, h13, (Hd (ho_8 _ _ _ _ _ _ _ _ _ HO.out)), Hd ⟨HS.out.r1.below (alloc_ _ _), HS.out.r2.below (alloc_ _ _), HS.out.r3.below (alloc_ _ _), HS.out.q1.below (alloc_ _ _), HS.out.q2.below (alloc_ _ _), (by rw [ht]; exact BxP.new HBE.out.size), HS.out.x11, HS.out.x12, HS.out.x13, HS.out.x21, HS.out.x22, HS.out.x23, HS.out.r1.apt, HS.out.r2.apt, HS.out.r3.apt, HS.out.y12, HS.out.q1.nep, HS.out.q2.nep, HS.out.z12, HS.out.z13⟩⟩
  ·obtain rfl := Option.some.inj ho
   clear ho
   have ea : b6 = true := hd ⟨6, .data⟩ (by simp) rfl
   have ec : b1 = true := hd ⟨1, .data⟩ (by simp) rfl
   have ht : b9 = false := by simpa using hl
   subst ht
   obtain ⟨rfl, hB1, hr⟩ := HS.out.q1 ea
   obtain ⟨_, hr2⟩ := HS.out.r1 ec
   obtain ⟨rb, dv, rfl, _, _, _, _⟩ := hr2.now
   have y0 := hr.now.cell 0
   have y1 := hr.now.frozen 0
   simp at y0
   refine wpOp_stepS rfl (fun K hK => ?_)
   go_simp
   exact hK.out _ _ ⟨b0, b1, b2, b3, b4, b5, b6, b7, b8, true, b10, b11, .pointer (some ⟨p1, 0, none⟩), s4, s5, s9, .slice (some ⟨rb, 0, none⟩) fn fn, s11, s12, s13, s14, l1, h1, l2, h2, l3, h3, p1, p2, p3, rfl, rfl, (Hd (below_set HBE.out (Nat.le_refl _) hB1)), h9, h11, h13, (Hd (ho_9 _ _ _ _ _ _ _ _ _ HO.out ec (hd ⟨5, .chain⟩ (by simp) rfl) ea (hd ⟨7, .phase⟩ (by simp) rfl) (hd ⟨8, .phase⟩ (by simp) rfl))), Hd ⟨HS.out.r1.set ea HS.out.x11, HS.out.r2.set ea HS.out.x12, HS.out.r3.set ea HS.out.x13, HS.out.q1.own rfl, HS.out.q2.set ea (HS.out.y12), HS.out.q3.set ea (HS.out.y13), HS.out.x11, HS.out.x12, HS.out.x13, HS.out.x21, HS.out.x22, HS.out.x23, HS.out.x31, HS.out.x32, HS.out.x33, HS.out.y12, HS.out.y13, HS.out.y23, HS.out.z12, HS.out.z13⟩⟩
  ·obtain rfl := Option.some.inj ho
   clear ho
   have ea : b7 = true := hd ⟨7, .data⟩ (by simp) rfl
   have ec : b3 = true := hd ⟨3, .data⟩ (by simp) rfl
   have ht : b10 = false := by simpa using hl
   subst ht
   obtain ⟨rfl, hB1, hr⟩ := HS.out.q2 ea
   obtain ⟨_, hr2⟩ := HS.out.r2 ec
   obtain ⟨rb, base, rfl, _, _, _, _⟩ := hr2.now
   have y0 := hr.now.cell 0
   have y1 := hr.now.frozen 0
   simp at y0
   refine wpOp_stepS rfl (fun K hK => ?_)
   go_simp
   exact hK.out _ _ ⟨b0, b1, b2, b3, b4, b5, b6, b7, b8, b9, true, b11, s3, .pointer (some ⟨p2, 0, none⟩), s5, s9, s10, s11, .slice (some ⟨rb, 0, none⟩) fn fn, s13, s14, l1, h1, l2, h2, l3, h3, p1, p2, p3, rfl, rfl, (Hd (below_set HBE.out (Nat.le_refl _) hB1)), h9, h11, h13, (Hd (ho_10 _ _ _ _ _ _ _ _ _ HO.out (hd ⟨9, .chain⟩ (by simp) rfl))), Hd ⟨HS.out.r1.set ea HS.out.x21, HS.out.r2.set ea HS.out.x22, HS.out.r3.set ea HS.out.x23, HS.out.q1.set ea (HS.out.y12.symm), HS.out.q2.own rfl, HS.out.q3.set ea (HS.out.y23), HS.out.x11, HS.out.x12, HS.out.x13, HS.out.x21, HS.out.x22, HS.out.x23, HS.out.x31, HS.out.x32, HS.out.x33, HS.out.y12, HS.out.y13, HS.out.y23, HS.out.z12, HS.out.z13⟩⟩
  ·obtain rfl := Option.some.inj ho
   clear ho
   have ea : b8 = true := hd ⟨8, .data⟩ (by simp) rfl
   have ec : b5 = true := hd ⟨5, .data⟩ (by simp) rfl
   have ht : b11 = false := by simpa using hl
   subst ht
   obtain ⟨rfl, hB1, hr⟩ := HS.out.q3 ea
   obtain ⟨_, hr2⟩ := HS.out.r3 ec
   obtain ⟨sl, rfl, _⟩ := hr2.now
   have hbk := hr.now
   unfold zer8 at hbk
   unfold arrV
   have y0 := hbk.cell 0
   have z0 := hbk.frozen 0
   have y1 := hbk.cell 1
   have z1 := hbk.frozen 1
   have y2 := hbk.cell 2
   have z2 := hbk.frozen 2
   have y3 := hbk.cell 3
   have z3 := hbk.frozen 3
   have y4 := hbk.cell 4
   have z4 := hbk.frozen 4
   have y5 := hbk.cell 5
   have z5 := hbk.frozen 5
   have y6 := hbk.cell 6
   have z6 := hbk.frozen 6
   have y7 := hbk.cell 7
   have z7 := hbk.frozen 7
   simp at y0 y1 y2 y3 y4 y5 y6 y7
   refine wpOp_stepS rfl (fun K hK => ?_)
   go_simp
   exact hK.out _ _ ⟨b0, b1, b2, b3, b4, b5, b6, b7, b8, b9, b10, true, s3, s4, .pointer (some ⟨p3, 0, none⟩), s9, s10, s11, s12, s13, _, l1, h1, l2, h2, l3, h3, p1, p2, p3, rfl, rfl, (Hd (below_set (below_set (below_set (below_set (below_set (below_set (below_set (below_set HBE.out (Nat.le_refl _) hB1) (Nat.le_refl _) hB1) (Nat.le_refl _) hB1) (Nat.le_refl _) hB1) (Nat.le_refl _) hB1) (Nat.le_refl _) hB1) (Nat.le_refl _) hB1) (Nat.le_refl _) hB1)), h9, h11, h13, (Hd (ho_11 _ _ _ _ _ _ _ _ _ HO.out (hd ⟨10, .chain⟩ (by simp) rfl))), Hd ⟨(AnP.set (AnP.set (AnP.set (AnP.set (AnP.set (AnP.set (AnP.set (AnP.set HS.out.r1 ea HS.out.x31) ea HS.out.x31) ea HS.out.x31) ea HS.out.x31) ea HS.out.x31) ea HS.out.x31) ea HS.out.x31) ea HS.out.x31), (AnP.set (AnP.set (AnP.set (AnP.set (AnP.set (AnP.set (AnP.set (AnP.set HS.out.r2 ea HS.out.x32) ea HS.out.x32) ea HS.out.x32) ea HS.out.x32) ea HS.out.x32) ea HS.out.x32) ea HS.out.x32) ea HS.out.x32), (AnP.set (AnP.set (AnP.set (AnP.set (AnP.set (AnP.set (AnP.set (AnP.set HS.out.r3 ea HS.out.x33) ea HS.out.x33) ea HS.out.x33) ea HS.out.x33) ea HS.out.x33) ea HS.out.x33) ea HS.out.x33) ea HS.out.x33), (BxP.set (BxP.set (BxP.set (BxP.set (BxP.set (BxP.set (BxP.set (BxP.set HS.out.q1 ea HS.out.y13.symm) ea HS.out.y13.symm) ea HS.out.y13.symm) ea HS.out.y13.symm) ea HS.out.y13.symm) ea HS.out.y13.symm) ea HS.out.y13.symm) ea HS.out.y13.symm), (BxP.set (BxP.set (BxP.set (BxP.set (BxP.set (BxP.set (BxP.set (BxP.set HS.out.q2 ea HS.out.y23.symm) ea HS.out.y23.symm) ea HS.out.y23.symm) ea HS.out.y23.symm) ea HS.out.y23.symm) ea HS.out.y23.symm) ea HS.out.y23.symm) ea HS.out.y23.symm), fun _ => ⟨rfl, hB1, RH.box (by simpa [csOf, arrV] using ((((((((hbk.stored 0 _).stored 1 _).stored 2 _).stored 3 _).stored 4 _).stored 5 _).stored 6 _).stored 7 _))⟩, HS.out.x11, HS.out.x12, HS.out.x13, HS.out.x21, HS.out.x22, HS.out.x23, HS.out.x31, HS.out.x32, HS.out.x33, HS.out.y12, HS.out.y13, HS.out.y23, HS.out.z12, HS.out.z13⟩⟩
 ·rintro l a X ⟨b0, b1, b2, b3, b4, b5, b6, b7, b8, b9, b10, b11, s3, s4, s5, s9, s10, s11, s12, s13, s14, l1, h1, l2, h2, l3, h3, p1, p2, p3, rfl, rfl, HBE, h9, h11, h13, HO, HS⟩ hr
  have hall := fun j (hj : j < 12) => all_up (md := .any) (j := j) (by kernel_rfl) hr rfl hj
  obtain rfl : b0 = true := hall 0 (by omega)
  obtain rfl : b1 = true := hall 1 (by omega)
  obtain rfl : b2 = true := hall 2 (by omega)
  obtain rfl : b3 = true := hall 3 (by omega)
  obtain rfl : b4 = true := hall 4 (by omega)
  obtain rfl : b5 = true := hall 5 (by omega)
  obtain rfl : b6 = true := hall 6 (by omega)
  obtain rfl : b7 = true := hall 7 (by omega)
  obtain rfl : b8 = true := hall 8 (by omega)
  obtain rfl : b9 = true := hall 9 (by omega)
  obtain rfl : b10 = true := hall 10 (by omega)
  obtain rfl : b11 = true := hall 11 (by omega)
  clear hall hr h9 h11 h13 HO
  obtain ⟨rfl, hB1, hr1⟩ := HS.out.q1 rfl
  obtain ⟨rfl, hB2, hr2⟩ := HS.out.q2 rfl
  obtain ⟨rfl, hB3, hr3⟩ := HS.out.q3 rfl
  obtain ⟨hL1, hR1⟩ := HS.out.r1 rfl
  obtain ⟨hL2, hR2⟩ := HS.out.r2 rfl
  obtain ⟨hL3, hR3⟩ := HS.out.r3 rfl
  have X1 := HS.out.x11 rfl rfl
  have X2 := HS.out.x21 rfl rfl
  have X3 := HS.out.x31 rfl rfl
  have Z2 := HS.out.z12 rfl rfl
  have Z3 := HS.out.z13 rfl rfl
  obtain ⟨rb, dv, rfl, hrl, hrh, hblk, hrows⟩ := hR1.now
  obtain ⟨vb, rfl, hvl, hvh, HVV⟩ := vrow hR2 HVL.out
  obtain ⟨sl, rfl, HTT⟩ := trow hR3
  have hb1 : Blk X p1 41 #[.slice (some ⟨rb, 0, none⟩) fn fn] := by simpa [csOf] using hr1.now
  have hb2 : Blk X p2 41 #[.slice (some ⟨vb, 0, none⟩) fn fn] := by simpa [csOf] using hr2.now
  have hb3 : Blk X p3 93 (arrV sl T) := by simpa [csOf] using hr3.now
  have HSZ := Hd (show w.heap.size < W0.heap.size ∧ W0.heap.size ≤ X.heap.size ∧ W0.heap.size ≤ l1 ∧ W0.heap.size ≤ p1 ∧ W0.heap.size ≤ p2 ∧ W0.heap.size ≤ p3 ∧ p1 < X.heap.size ∧ p2 < X.heap.size ∧ p3 < X.heap.size ∧ h1 ≤ X.heap.size ∧ h2 ≤ X.heap.size ∧ h3 ≤ X.heap.size ∧ l1 ≤ rb ∧ rb < h1 ∧ l2 ≤ vb ∧ vb < h2 ∧ (p1 < l1 ∨ h1 ≤ p1) ∧ (p2 < l1 ∨ h1 ≤ p2) ∧ (p3 < l1 ∨ h1 ≤ p3) ∧ (h1 ≤ l2 ∨ h2 ≤ l1) ∧ (h1 ≤ l3 ∨ h3 ≤ l1) from
   ⟨HBK.out.lt, HBE.out.size, hL1, hB1, hB2, hB3, hb1.lt, hb2.lt, hb3.lt, hR1.1, hR2.1, hR3.1, hrl, hrh, hvl, hvh, X1, X2, X3, Z2, Z3⟩)
  have HK1 := Hd hb1
  have HK2 := Hd hb2
  have HK3 := Hd hb3
  have HKD := Hd hblk
  have HRO := Hd hrows
  have HVV9 := Hd HVV
  have HTT9 := Hd HTT
  have hpx := HBK.out.below HBE.out HBK.out.lt
  have HPX := Hd hpx
  have x0 : X.cell? ⟨w.heap.size, 0, none⟩ = some (.slice fA fn fc) := hpx.cell 0
  clear hb1 hb2 hb3 hr1 hr2 hr3 hR1 hR2 hR3 hL1 hL2 hL3 hB1 hB2 hB3 hblk hrows HVV HTT hpx hrl hrh hvl hvh X1 X2 X3 Z2 Z3 HS
  obtain ⟨W1, hW1⟩ : ∃ W1, (X.alloc (.cells (Array.replicate fn (.slice none 0 0)) 44)).alloc (.cells #[.slice (some ⟨X.heap.size, 0, none⟩) fn fn] 41) = W1 := ⟨_, rfl⟩
  have HB1 := Hd (show Below X.heap.size X W1 from by rw [← hW1]; exact to_ (alloc_ _ _) (alloc_ _ _))
  have HS1 := Hd (show W1.heap.size = X.heap.size + 2 from by rw [← hW1]; simp)
  have HGB := Hd (show Blk W1 X.heap.size 44 (Array.replicate fn (.slice none 0 0)) from by rw [← hW1]; exact (Blk.new _ _ _).alloc _)
  have HGX : Hid (Blk W1 (X.heap.size + 1) 41 #[.slice (some ⟨X.heap.size, 0, none⟩) fn fn]) := Hd (by
   rw [← hW1]
   have := Blk.new (X.alloc (.cells (Array.replicate fn (.slice none 0 0)) 44)) 41 #[.slice (some ⟨X.heap.size, 0, none⟩) fn fn]
   rwa [World.size_alloc] at this)
  have hp1 := HPX.out.below HB1.out HPX.out.lt
  obtain ⟨y0, y1, y2⟩ := q3Z hp1
  have HBW1 := Hd (to_ (to_ HB0.out HBE.out) HB1.out)
  clear hp1
  refine NoPanic.normal ?_
  gi_wp2_with (first
   | (refine ⟨trivial, ?_⟩; gi_at_call 15; refine (callsIn_wide.2 (HLI.out W1 HBW1.out)).mono ?_; rintro e w4 ⟨A4, c4, rfl, hbl, hb4, hlo⟩; have HBL := Hd hbl; have HB4 := Hd hb4; have HLO := Hd hlo; clear hbl hb4 hlo x0 y0 y1 y2 hW1)
   | (refine ⟨trivial, ?_⟩; gi_at_call 48; refine (callsIn_wide.2 (marked_it w4 A4 fn c4)).mono ?_; rintro e w5 ⟨rfl, hw5⟩; have HW5 := Hd hw5; clear hw5))
  have hs1 := HS1.out
  have hs4 := HB4.out.size
  have hs5 : w5.heap.size = w4.heap.size + 1 := by rw [HW5.out]; simp
  have HB5 := Hd (show Below w4.heap.size w4 w5 from by rw [HW5.out]; exact alloc_ _ _)
  have HMB := Hd (show Blk w5 w4.heap.size 38 #[.slice A4 fn c4] from by rw [HW5.out]; exact Blk.new _ _ _)
  have HX5 := Hd (show Below X.heap.size X w5 from to_ HB1.out (to_ HB4.out HB5.out))
  have HW15 := Hd (show Below W1.heap.size W1 w5 from to_ HB4.out HB5.out)
  have HSS := Hd (show W1.heap.size = X.heap.size + 2 ∧ W1.heap.size ≤ w4.heap.size ∧ w5.heap.size = w4.heap.size + 1 from ⟨hs1, hs4, hs5⟩)
  have hsz := HSZ.out
  refine wpIn_rangeXH rfl (by decide) (gf := 92) (lb := #[.pointer (some ⟨w4.heap.size, 0, none⟩)]) rfl trivial (enters_of Tryz.func92 (by kernel_rfl) rfl)
   (marked_tells 5 w4.heap.size w4.heap.size A4 fn c4 f (by omega) (fun k => W1.heap.size ≤ k ∧ k < w5.heap.size) (by omega) (fun hz ad e => ⟨HLO.out ad e, by obtain ⟨ad', e', hb', _⟩ := HBL.out.at_ hz; rw [e] at e'; cases e'; omega⟩) w5 (fun k hk => hk.2) (HMB.out.cell 0) (HBL.out.below HB5.out) (by omega))
   (Below.refl _ _) (fun _ => rfl)
   (fun k => ¬ Two w5.heap.size k) (fun k h h' => h' h) (fun k h => trivial) (fun k h => trivial) (by omega)
   (fun pre Y => (∃ vs, GIv fn X.heap.size l1 h1 rb (w5.heap.size + 2) Df (fun i => Df i ++ ocL T (Vf i)) dv pre vs Y) ∧ Keeps (fun k => k < w5.heap.size ∧ k ≠ X.heap.size ∧ (k < l1 ∨ h1 ≤ k ∨ k = rb)) w5 Y)
   (fun _ _ _ => False)
   (fun pre A B ⟨⟨vs, h2⟩, h3⟩ hk => ⟨⟨vs, h2.keep fun k hk1 hk2 => hk.block k (by unfold Two; omega) hk2⟩, h3.trans (hk.mono fun k hk1 _ => by unfold Two; omega)⟩)
   (fun _ _ _ _ h _ _ => h)
   ⟨⟨dv, GIv.start (HGB.out.below HW15.out HGB.out.lt) (HRO.out.on HDR.out HX5.out)⟩, Keeps.refl _ _⟩
   (fun x Y => { tmps := #[.agg #[.slice fA fn fc, .slice dA dn dc, .int .i64 en], .pointer (some ⟨w.heap.size, 0, none⟩), .slice none 0 0, .pointer (some ⟨p1, 0, none⟩), .pointer (some ⟨p2, 0, none⟩), .pointer (some ⟨p3, 0, none⟩), .pointer (some ⟨X.heap.size + 1, 0, none⟩), .pointer (some ⟨Y.heap.size, 0, none⟩), undef, s9, .slice (some ⟨rb, 0, none⟩) fn fn, s11, .slice (some ⟨vb, 0, none⟩) fn fn, s13, .agg (arrV sl T), .pointer (some ⟨w.heap.size, 0, none⟩), .slice fA fn fc, .int .i64 (fn : Int), .slice (some ⟨X.heap.size, 0, none⟩) fn fn, .agg #[.slice fA fn fc, .slice dA dn dc, .int .i64 en], .slice A4 fn c4, .func (.func 92) #[] #[.pointer (some ⟨w4.heap.size, 0, none⟩)], .int .i64 (x : Int), undef, undef, undef, undef, undef, undef, undef, undef, undef, undef, undef, undef, undef, undef, undef, undef, undef, undef, undef, undef, undef, undef, undef, undef, undef, undef], defers := [] })
   (fun x Y => Y.alloc (.cells #[.int .i64 (x : Int)] 3))
   (fun x Y => (Keeps.refl _ Y).alloc _) ?assign ?body ?done ?stop
  case assign =>
   intro l9 x Y K hK
   clear hs1 hs4 hs5 hsz
   unfold itE
   gi_wp2
   exact hK
  case body =>
   rintro l9 pre x V0 Y hl9 hrec ⟨⟨vs, hgv⟩, hkv⟩ hI1 hpre hsz2 hk hcl
   have hkw := hI1.2
   have hxm := (marks_of hpre).1
   have hxp := marks_not hpre
   have hx0 : (0 : Int) ≤ (x : Int) := by omega
   have hxI : (x : Int) < (fn : Int) := by omega
   have hkY : Keeps (fun k => k ≠ w5.heap.size + 1 ∧ k < V0.heap.size) V0 Y := ((Keeps.refl (fun k => k ≠ w5.heap.size + 1 ∧ k < V0.heap.size) V0).alloc _).trans (hk.mono fun k h _ => h.1)
   have hgY : GIv fn X.heap.size l1 h1 rb (w5.heap.size + 2) Df (fun i => Df i ++ ocL T (Vf i)) dv pre vs Y := hgv.keep fun k h1 h2 => hkY.block k ⟨by omega, h2⟩ h2
   have hbx : Blk Y V0.heap.size 3 #[.int .i64 (x : Int)] := (hk.block V0.heap.size (by omega) (by simp)).trans (Blk.new V0 3 #[.int .i64 (x : Int)])
   have hrow := hgY.row hxm hxp
   obtain ⟨DA, DC, hdv⟩ := own_slice hrow.1
   have hdb : ∀ k, (dv x).ownBlock = some k → l1 ≤ k ∧ k < h1 ∧ k ≠ rb := fun k e => ⟨(hrow.1.lt k e).1, (HRO.out.1 x hxm).2 k e⟩
   have c6 : Y.cell? ⟨X.heap.size + 1, 0, none⟩ = some (.slice (some ⟨X.heap.size, 0, none⟩) fn fn) := hkw.cell (by (try dsimp only); omega) ((HGX.out.below HW15.out HGX.out.lt).cell 0)
   have c3 : Y.cell? ⟨p1, 0, none⟩ = some (.slice (some ⟨rb, 0, none⟩) fn fn) := hkw.cell (by dsimp only; have := HX5.out.size; omega) ((HK1.out.below HX5.out HK1.out.lt).cell 0)
   have cd : Y.cell? ⟨rb, x, none⟩ = some (.slice DA (Df x).length DC) := hkw.cell (by dsimp only; have := HX5.out.size; omega) (by rw [(HKD.out.below HX5.out HKD.out.lt).cell, ← hdv]; exact By.arrN_at _ hxm)
   have c7 : Y.cell? ⟨V0.heap.size, 0, none⟩ = some (.int .i64 (x : Int)) := hbx.cell 0
   have cg : Y.cell? ⟨X.heap.size, x, none⟩ = some (.slice none 0 0) := by rw [hgY.blk.cell, By.arrN_at _ hxm]; unfold gE; rw [if_neg hxp]
   have fg : Y.frozen? ⟨X.heap.size, x, none⟩ = false := hgY.blk.frozen x
   have HSV := Hd (show w5.heap.size + 2 ≤ V0.heap.size ∧ V0.heap.size < Y.heap.size ∧ X.heap.size + 3 ≤ w5.heap.size from ⟨hsz2, hbx.lt, by omega⟩)
   have HGY := Hd hgY
   have HKW := Hd hkw
   have HDB := Hd hdb
   have HDV := Hd hdv
   have HREC := Hd hrec
   have HBX := Hd hbx
   have HXM := Hd hxm
   have HXP := Hd hxp
   have HROW := Hd hrow.1
   obtain ⟨m0, hm0⟩ : ∃ m, (Df x).length = m := ⟨_, rfl⟩
   have HM0 := Hd hm0
   rw [hm0] at cd
   have hHeld : Y.drew.cell? ⟨X.heap.size + 1, 0, none⟩ = some (.slice (some ⟨X.heap.size, 0, none⟩) fn fn) ∧ Y.drew.cell? ⟨V0.heap.size, 0, none⟩ = some (.int .i64 (x : Int)) ∧ Y.drew.cell? ⟨p1, 0, none⟩ = some (.slice (some ⟨rb, 0, none⟩) fn fn) ∧ Y.drew.cell? ⟨rb, x, none⟩ = some (.slice DA m0 DC) := ⟨c6, c7, c3, cd⟩
   have cg1 : Y.drew.cell? ⟨X.heap.size, x, none⟩ = some (.slice none 0 0) := cg
   have fg1 : Y.drew.frozen? ⟨X.heap.size, x, none⟩ = false := fg
   clear hI1 hkY hkv hgv hgY hkw hdb hdv hrec hbx hxp hrow hm0 c6 c7 c3 cd cg fg hpre hk hcl hsz2 hs1 hs4 hs5 hsz
   gi_wp2
   refine wpIn_region_round (S := fun W' => W'.cell? ⟨X.heap.size + 1, 0, none⟩ = some (.slice (some ⟨X.heap.size, 0, none⟩) fn fn) ∧ W'.cell? ⟨V0.heap.size, 0, none⟩ = some (.int .i64 (x : Int)) ∧ W'.cell? ⟨p1, 0, none⟩ = some (.slice (some ⟨rb, 0, none⟩) fn fn) ∧ W'.cell? ⟨rb, x, none⟩ = some (.slice DA m0 DC)) (by kernel_rfl) (by kernel_rfl) ?_
   refine tk7Z 0 1 2 3 4 5 6 hHeld ?_
   refine rd1Z 7 (fun K hK => ?_)
   go_simp
   have hsv := HSV.out
   have hsz := HSZ.out
   refine hK.out _ _ (⟨((Keeps.refl (fun k => k ≠ X.heap.size) _).setCell (p := ⟨X.heap.size, x, none⟩) (by simp) _).cell (by (try dsimp only); omega) hHeld.1, ((Keeps.refl (fun k => k ≠ X.heap.size) _).setCell (p := ⟨X.heap.size, x, none⟩) (by simp) _).cell (by (try dsimp only); omega) hHeld.2.1, ((Keeps.refl (fun k => k ≠ X.heap.size) _).setCell (p := ⟨X.heap.size, x, none⟩) (by simp) _).cell (by (try dsimp only); omega) hHeld.2.2.1, ((Keeps.refl (fun k => k ≠ X.heap.size) _).setCell (p := ⟨X.heap.size, x, none⟩) (by simp) _).cell (by (try dsimp only); omega) hHeld.2.2.2⟩) ?_
   clear hK K hHeld
   intro hHeld
   try simp only [Act.put, nmZ]
   refine wpAnyH_done (by kernel_rfl) ?_ _
   refine (show Only _ .normal _ _ from ?_)
   generalize hY1 : (Y.setCell ⟨X.heap.size, x, none⟩ (.slice DA m0 DC)).drew = Y1
   have hkY1 : Keeps (fun k => k ≠ X.heap.size) Y Y1 := by rw [← hY1]; exact ((Keeps.refl (fun k => k ≠ X.heap.size) Y).setCell (p := ⟨X.heap.size, x, none⟩) (by simp) _).drew
   have hbY1 : Blk Y1 X.heap.size 44 ((By.arrN fn (gE pre vs)).setIfInBounds x (dv x)) := by rw [← hY1, HDV.out, HM0.out]; exact HGY.out.blk.stored x _
   have hXw := HX5.out.size
   have hKX : Keeps (fun k => k < X.heap.size ∧ (k < l1 ∨ h1 ≤ k ∨ k = rb)) X Y1 := ((Keeps.of_below (U := fun k => k < X.heap.size ∧ (k < l1 ∨ h1 ≤ k ∨ k = rb)) HX5.out (fun k hk _ => hk.1)).trans (HKW.out.mono fun k hk _ => by omega)).trans (hkY1.mono fun k hk _ => by omega)
   have d6 : Y1.cell? ⟨X.heap.size + 1, 0, none⟩ = some (.slice (some ⟨X.heap.size, 0, none⟩) fn fn) := hkY1.cell (by (try dsimp only); omega) (HKW.out.cell (by (try dsimp only); omega) ((HGX.out.below HW15.out HGX.out.lt).cell 0))
   have d7 : Y1.cell? ⟨V0.heap.size, 0, none⟩ = some (.int .i64 (x : Int)) := hkY1.cell (by (try dsimp only); omega) (HBX.out.cell 0)
   have d4 : Y1.cell? ⟨p2, 0, none⟩ = some (.slice (some ⟨vb, 0, none⟩) fn fn) := hKX.cell (by (try dsimp only); omega) (HK2.out.cell 0)
   obtain ⟨VA, VC, hVV⟩ := HVV9.out x HXM.out
   rw [HVW.out x HXM.out] at hVV
   have dw : Y1.cell? ⟨vb, x, none⟩ = some (.slice VA (Vf x).length VC) := (hVV Y1 (hKX.mono fun k hk _ => by omega)).1
   have hb3 : Blk Y1 p3 93 (arrV sl T) := (hKX.block p3 (by (try dsimp only); omega) (by omega)).trans HK3.out
   unfold arrV at hb3
   have t0 : Y1.cell? ⟨p3, 0, none⟩ = some (.slice (sl 0).1 (By.rowOf T 0).length (sl 0).2) := hb3.cell 0
   have t1 : Y1.cell? ⟨p3, 1, none⟩ = some (.slice (sl 1).1 (By.rowOf T 1).length (sl 1).2) := hb3.cell 1
   have t2 : Y1.cell? ⟨p3, 2, none⟩ = some (.slice (sl 2).1 (By.rowOf T 2).length (sl 2).2) := hb3.cell 2
   have t3 : Y1.cell? ⟨p3, 3, none⟩ = some (.slice (sl 3).1 (By.rowOf T 3).length (sl 3).2) := hb3.cell 3
   have t4 : Y1.cell? ⟨p3, 4, none⟩ = some (.slice (sl 4).1 (By.rowOf T 4).length (sl 4).2) := hb3.cell 4
   have t5 : Y1.cell? ⟨p3, 5, none⟩ = some (.slice (sl 5).1 (By.rowOf T 5).length (sl 5).2) := hb3.cell 5
   have t6 : Y1.cell? ⟨p3, 6, none⟩ = some (.slice (sl 6).1 (By.rowOf T 6).length (sl 6).2) := hb3.cell 6
   have t7 : Y1.cell? ⟨p3, 7, none⟩ = some (.slice (sl 7).1 (By.rowOf T 7).length (sl 7).2) := hb3.cell 7
   obtain ⟨mv, hmv⟩ : ∃ m, (Vf x).length = m := ⟨_, rfl⟩
   have HMV := Hd hmv
   rw [hmv] at dw
   have HKX := Hd hKX
   have HKY1 := Hd hkY1
   have HBY1 := Hd hbY1
   have HD6 := Hd d6
   have HVVX := Hd hVV
   have hHeld : Y1.drew.cell? ⟨p2, 0, none⟩ = some (.slice (some ⟨vb, 0, none⟩) fn fn) ∧ Y1.drew.cell? ⟨V0.heap.size, 0, none⟩ = some (.int .i64 (x : Int)) ∧ Y1.drew.cell? ⟨vb, x, none⟩ = some (.slice VA mv VC) ∧ Y1.drew.cell? ⟨p3, 0, none⟩ = some (.slice (sl 0).1 (By.rowOf T 0).length (sl 0).2) ∧ Y1.drew.cell? ⟨p3, 1, none⟩ = some (.slice (sl 1).1 (By.rowOf T 1).length (sl 1).2) ∧ Y1.drew.cell? ⟨p3, 2, none⟩ = some (.slice (sl 2).1 (By.rowOf T 2).length (sl 2).2) ∧ Y1.drew.cell? ⟨p3, 3, none⟩ = some (.slice (sl 3).1 (By.rowOf T 3).length (sl 3).2) ∧ Y1.drew.cell? ⟨p3, 4, none⟩ = some (.slice (sl 4).1 (By.rowOf T 4).length (sl 4).2) ∧ Y1.drew.cell? ⟨p3, 5, none⟩ = some (.slice (sl 5).1 (By.rowOf T 5).length (sl 5).2) ∧ Y1.drew.cell? ⟨p3, 6, none⟩ = some (.slice (sl 6).1 (By.rowOf T 6).length (sl 6).2) ∧ Y1.drew.cell? ⟨p3, 7, none⟩ = some (.slice (sl 7).1 (By.rowOf T 7).length (sl 7).2) := ⟨d4, d7, dw, t0, t1, t2, t3, t4, t5, t6, t7⟩
   clear hmv hKX hkY1 hbY1 d6 d7 d4 dw hVV hb3 t0 t1 t2 t3 t4 t5 t6 t7 hXw hY1 hsz hsv cg1 fg1
   dsimp only [Only]
   gi_wp2
   refine wpIn_region_round (S := fun W' => W'.cell? ⟨p2, 0, none⟩ = some (.slice (some ⟨vb, 0, none⟩) fn fn) ∧ W'.cell? ⟨V0.heap.size, 0, none⟩ = some (.int .i64 (x : Int)) ∧ W'.cell? ⟨vb, x, none⟩ = some (.slice VA mv VC) ∧ W'.cell? ⟨p3, 0, none⟩ = some (.slice (sl 0).1 (By.rowOf T 0).length (sl 0).2) ∧ W'.cell? ⟨p3, 1, none⟩ = some (.slice (sl 1).1 (By.rowOf T 1).length (sl 1).2) ∧ W'.cell? ⟨p3, 2, none⟩ = some (.slice (sl 2).1 (By.rowOf T 2).length (sl 2).2) ∧ W'.cell? ⟨p3, 3, none⟩ = some (.slice (sl 3).1 (By.rowOf T 3).length (sl 3).2) ∧ W'.cell? ⟨p3, 4, none⟩ = some (.slice (sl 4).1 (By.rowOf T 4).length (sl 4).2) ∧ W'.cell? ⟨p3, 5, none⟩ = some (.slice (sl 5).1 (By.rowOf T 5).length (sl 5).2) ∧ W'.cell? ⟨p3, 6, none⟩ = some (.slice (sl 6).1 (By.rowOf T 6).length (sl 6).2) ∧ W'.cell? ⟨p3, 7, none⟩ = some (.slice (sl 7).1 (By.rowOf T 7).length (sl 7).2)) (by kernel_rfl) (by kernel_rfl) ?_
   refine tk5Z 0 1 2 3 4 hHeld ?_
   refine rd1Z 5 (fun K hK => ?_)
   go_simp
   refine Calls.mono (oc_any Y1.drew _ _ _ _ _ _ _ _ _ _ _ _ _ _ _ _ _ _ _ _ _ _ _ _ _ _ _) ?_
   rintro e Z ⟨rfl, hZ⟩
   have HBZ := Hd (show Below Y1.heap.size Y1 Z from by rw [hZ]; unfold ocW; exact to_ ((Below.refl _ Y1).drew) (to_ (alloc_ _ _) (alloc_ _ _)))
   have HBD := Hd (show Below Y1.drew.heap.size Y1.drew Z from by rw [hZ]; unfold ocW; exact to_ (alloc_ _ _) (alloc_ _ _))
   have HSZZ : Hid (Z.heap.size = Y1.heap.size + 2) := Hd (by rw [hZ]; unfold ocW; simp)
   have HZA : Hid (Blk Z Y1.heap.size 93 #[.slice (sl 0).1 (By.rowOf T 0).length (sl 0).2, .slice (sl 1).1 (By.rowOf T 1).length (sl 1).2, .slice (sl 2).1 (By.rowOf T 2).length (sl 2).2, .slice (sl 3).1 (By.rowOf T 3).length (sl 3).2, .slice (sl 4).1 (By.rowOf T 4).length (sl 4).2, .slice (sl 5).1 (By.rowOf T 5).length (sl 5).2, .slice (sl 6).1 (By.rowOf T 6).length (sl 6).2, .slice (sl 7).1 (By.rowOf T 7).length (sl 7).2]) := Hd (by rw [hZ]; exact (Blk.new Y1.drew _ _).alloc _)
   have HZB : Hid (Blk Z (Y1.heap.size + 1) 44 #[.slice VA mv VC]) := Hd (by
    rw [hZ]
    have := Blk.new (Y1.drew.alloc (.cells #[.slice (sl 0).1 (By.rowOf T 0).length (sl 0).2, .slice (sl 1).1 (By.rowOf T 1).length (sl 1).2, .slice (sl 2).1 (By.rowOf T 2).length (sl 2).2, .slice (sl 3).1 (By.rowOf T 3).length (sl 3).2, .slice (sl 4).1 (By.rowOf T 4).length (sl 4).2, .slice (sl 5).1 (By.rowOf T 5).length (sl 5).2, .slice (sl 6).1 (By.rowOf T 6).length (sl 6).2, .slice (sl 7).1 (By.rowOf T 7).length (sl 7).2] 93)) 44 #[.slice VA mv VC]
    rwa [World.size_alloc] at this)
   clear hZ
   try go_wp2_with fail
   refine hK.out _ _ ((on11Z hHeld HBD.out)) ?_
   clear hK K hHeld
   intro hHeld
   try simp only [Act.put, nmZ]
   refine wpAnyH_done (by kernel_rfl) ?_ _
   refine (show Only _ .normal _ _ from ?_)
   dsimp only [Only]
   clear hHeld
   gi_wp2
   unfold ocF
   have hsv := HSV.out
   have hss := HSS.out
   have hsz := HSZ.out
   have hzz := HSZZ.out
   have hy1 := HKY1.out.size
   obtain ⟨r9, hr9⟩ := HREC.out
   have hl9' : l9 < Y.heap.size := (Array.getElem?_eq_some_iff.1 hr9).1
   have hrz : Z.heap[l9]? = some (.loop r9) := (HBZ.out.block l9 (by omega)).trans ((HKY1.out.block l9 (by (try dsimp only); omega) hl9').trans hr9)
   have hKZ : Keeps (fun k => k < X.heap.size ∧ (k < l1 ∨ h1 ≤ k ∨ k = rb)) X Z := HKX.out.trans (Keeps.of_below (U := fun k => k < X.heap.size ∧ (k < l1 ∨ h1 ≤ k ∨ k = rb)) HBZ.out (fun k hk _ => by omega))
   have HKZ := Hd hKZ
   have hst : RIv X.heap.size l1 x (By.arrN fn (gE pre vs)) (Df x) (dv x) Z [] (dv x) Z := by
    refine ⟨(HBZ.out.block _ (by omega)).trans HBY1.out, ?_, .inl rfl, Keeps.refl _ _⟩
    rw [List.append_nil]
    exact By.own_keep (By.own_keep HROW.out fun g _ hl e => HKY1.out.block g (by (try dsimp only); have := HDB.out g e; omega) hl) fun g _ hl e => HBZ.out.block g hl
   refine wpIn_rangeXN (F := Fence.wide.inRound l9) (l₀ := l9) (r₀ := r9) rfl hrz (by decide) (gf := 97) (lb := #[.pointer (some ⟨Y1.heap.size + 1, 0, none⟩), .pointer (some ⟨Y1.heap.size, 0, none⟩)]) rfl trivial (enters_of Tryz.func97 (by kernel_rfl) rfl)
    (TellsX.inRound l9 (oc_tells 3 (Y1.heap.size + 1) Y1.heap.size VA VC (Vf x) sl T (HVN.out x) HTN.out (fun j hj => HVC.out x j hj) (fun k => k < Z.heap.size ∧ k ≠ X.heap.size ∧ (k < l1 ∨ h1 ≤ k ∨ k = rb)) Z (fun k hk => hk.1) ?hR))
    (Below.refl _ _) (fun _ => rfl)
    (fun k => k ≠ Z.heap.size) (fun h => h rfl) (fun k h => trivial) trivial (by omega)
    (fun pre2 A => ∃ v, RIv X.heap.size l1 x (By.arrN fn (gE pre vs)) (Df x) (dv x) Z pre2 v A)
    (fun _ _ _ => False)
    (fun pre2 A B ⟨v, h⟩ hk => ⟨v, h.keep hk (by omega) (fun k e => by have := HDB.out k e; omega)⟩)
    (fun _ _ _ _ h _ _ => h)
    ⟨dv x, hst⟩
    (fun z A => { tmps := #[.agg #[.slice fA fn fc, .slice dA dn dc, .int .i64 en], .pointer (some ⟨w.heap.size, 0, none⟩), .slice none 0 0, .pointer (some ⟨p1, 0, none⟩), .pointer (some ⟨p2, 0, none⟩), .pointer (some ⟨p3, 0, none⟩), .pointer (some ⟨X.heap.size + 1, 0, none⟩), .pointer (some ⟨V0.heap.size, 0, none⟩), .int .i64 z, s9, .slice (some ⟨rb, 0, none⟩) fn fn, s11, .slice (some ⟨vb, 0, none⟩) fn fn, s13, .agg (arrV sl T), .pointer (some ⟨w.heap.size, 0, none⟩), .slice fA fn fc, .int .i64 (fn : Int), .slice (some ⟨X.heap.size, 0, none⟩) fn fn, .agg #[.slice fA fn fc, .slice dA dn dc, .int .i64 en], .slice A4 fn c4, .func (.func 92) #[] #[.pointer (some ⟨w4.heap.size, 0, none⟩)], .int .i64 (x : Int), .slice (some ⟨X.heap.size, 0, none⟩) fn fn, .int .i64 (x : Int), .slice (some ⟨rb, 0, none⟩) fn fn, .int .i64 (x : Int), .pointer (some ⟨rb, x, none⟩), .slice DA m0 DC, .pointer (some ⟨X.heap.size, x, none⟩), .agg #[.slice (sl 0).1 (By.rowOf T 0).length (sl 0).2, .slice (sl 1).1 (By.rowOf T 1).length (sl 1).2, .slice (sl 2).1 (By.rowOf T 2).length (sl 2).2, .slice (sl 3).1 (By.rowOf T 3).length (sl 3).2, .slice (sl 4).1 (By.rowOf T 4).length (sl 4).2, .slice (sl 5).1 (By.rowOf T 5).length (sl 5).2, .slice (sl 6).1 (By.rowOf T 6).length (sl 6).2, .slice (sl 7).1 (By.rowOf T 7).length (sl 7).2], .slice (some ⟨vb, 0, none⟩) fn fn, .int .i64 (x : Int), .pointer (some ⟨vb, x, none⟩), .slice VA mv VC, .func (.func 97) #[] #[.pointer (some ⟨Y1.heap.size + 1, 0, none⟩), .pointer (some ⟨Y1.heap.size, 0, none⟩)], .int .i64 z, undef, undef, undef, undef, undef, undef, undef, undef, undef, undef, undef, undef], defers := [] })
    (fun z A => A) (fun z A => Keeps.refl _ A) ?assign2 ?body2 ?done2 ?stop2
   case hR =>
    intro A hA
    have hKA : Keeps (fun k => k < X.heap.size ∧ (k < l1 ∨ h1 ≤ k ∨ k = rb)) X A := hKZ.trans (hA.mono fun k hk _ => by omega)
    have hba : Blk A Y1.heap.size 93 _ := (hA.block Y1.heap.size (by (try dsimp only); omega) (by omega)).trans HZA.out
    refine ⟨?_, fun j hj => (HVVX.out A (hKA.mono fun k hk _ => by omega)).2 j hj, fun c hc => ⟨?_, fun i hi => HTT9.out A (hKA.mono fun k hk _ => by omega) c hc i hi⟩⟩
    ·rw [HMV.out]
     exact hA.cell (by (try dsimp only); omega) (HZB.out.cell 0)
    ·rw [hba.cell]
     have : c = 0 ∨ c = 1 ∨ c = 2 ∨ c = 3 ∨ c = 4 ∨ c = 5 ∨ c = 6 ∨ c = 7 := by omega
     rcases this with rfl | rfl | rfl | rfl | rfl | rfl | rfl | rfl <;> rfl
   case assign2 =>
    intro l8 z A K hK
    clear hsv hss hsz hzz hy1 hr9 hl9' hrz hKZ hst
    unfold ocE
    gi_wp2
    exact hK
   case body2 =>
    rintro l8 pre2 z V1 A ⟨v, hri⟩ hpre2 hsz3 hk3 hcl3
    obtain ⟨i0, hi, hz0, hz1, hz2⟩ := info_parts By.infoI
    have hlen : (Df x ++ pre2).length + 1 ≤ 216 := by
     have h1 := hpre2.length_le
     have h2 := HRN.out x
     rw [List.length_append] at h1 h2 ⊢
     rw [List.length_singleton] at h1
     omega
    have hza : Z.heap.size + 1 ≤ A.heap.size := Nat.le_trans hsz3 hk3.size
    obtain ⟨VA2, VC2, hvv⟩ := own_slice hri.2.1
    have hvb : ∀ k, v.ownBlock = some k → (l1 ≤ k ∧ k < h1 ∧ k ≠ rb) ∨ Z.heap.size + 1 ≤ k := fun k e => by
     rcases hri.2.2.1 with q3 | ⟨k', q3, q5⟩
     ·rw [q3] at e; exact .inl (HDB.out k e)
     ·rw [q3] at e; cases e; exact .inr q5
    have c6 : A.cell? ⟨X.heap.size + 1, 0, none⟩ = some (.slice (some ⟨X.heap.size, 0, none⟩) fn fn) := hri.2.2.2.cell (by refine ⟨by (try dsimp only); omega, by (try dsimp only); omega, fun e => by have := HDB.out _ e; (try dsimp only at this); omega⟩) (cell_on HD6.out HBZ.out)
    have c7 : A.cell? ⟨V0.heap.size, 0, none⟩ = some (.int .i64 (x : Int)) := hri.2.2.2.cell (by refine ⟨by (try dsimp only); omega, by (try dsimp only); omega, fun e => by have := HDB.out _ e; (try dsimp only at this); omega⟩) (cell_on (HKY1.out.cell (by (try dsimp only); omega) (HBX.out.cell 0)) HBZ.out)
    have cg : A.cell? ⟨X.heap.size, x, none⟩ = some v := by rw [hri.1.cell, By.arrN_set, By.arrN_at _ HXM.out, if_pos rfl]
    have fg : A.frozen? ⟨X.heap.size, x, none⟩ = false := hri.1.frozen x
    have HEND := Hd (fun v' w' => RIv.next (v' := v') (w' := w') (z := z) (hi := h1) (rb := rb) hri (by omega) (by omega) HDB.out hza)
    have hown := hri.2.1
    have HN1 : Hid (some (X.heap.size + 1) ≠ v.ownBlock) := Hd (fun e => by rcases hvb _ e.symm with h | h <;> omega)
    have HN2 : Hid (some V0.heap.size ≠ v.ownBlock) := Hd (fun e => by rcases hvb _ e.symm with h | h <;> omega)
    have HN3 : Hid (some X.heap.size ≠ v.ownBlock) := Hd (fun e => by rcases hvb _ e.symm with h | h <;> omega)
    obtain ⟨xs9, hxs9⟩ : ∃ xs, By.ints (Df x ++ pre2) = xs := ⟨_, rfl⟩
    rw [hxs9] at HEND hown
    obtain ⟨n9, hn9⟩ : ∃ n, (Df x ++ pre2).length = n := ⟨_, rfl⟩
    rw [hn9] at HEND hown hvv hlen
    subst hvv
    have HLen1 : n9 + 1 ≤ maxLen := by unfold maxLen; omega
    have HLen2 : (n9 + 1) * 8 ≤ 140737488355328 := by omega
    have hownA := By.own_keep (w' := A.drew.alloc (.cells #[.int .i64 z] 3)) hown (fun k _ hk _ => Below.heap_alloc _ _ _ hk)
    have hnewA : (A.drew.alloc (.cells #[.int .i64 z] 3)).cell? ⟨A.heap.size, 0, none⟩ = some (.int .i64 z) := by
     have := (Blk.new A.drew 3 #[.int .i64 z]).cell 0
     simpa using this
    have HBA : Below A.heap.size A (A.drew.alloc (.cells #[.int .i64 z] 3)) := to_ ((Below.refl _ A).drew) (alloc_ _ _)
    have c6A : (A.drew.alloc (.cells #[.int .i64 z] 3)).cell? ⟨X.heap.size + 1, 0, none⟩ = some (.slice (some ⟨X.heap.size, 0, none⟩) fn fn) := cell_on c6 HBA
    have c7A : (A.drew.alloc (.cells #[.int .i64 z] 3)).cell? ⟨V0.heap.size, 0, none⟩ = some (.int .i64 (x : Int)) := cell_on c7 HBA
    have cgA : (A.drew.alloc (.cells #[.int .i64 z] 3)).cell? ⟨X.heap.size, x, none⟩ = some (.slice VA2 n9 VC2) := cell_on cg HBA
    have fgA : (A.drew.alloc (.cells #[.int .i64 z] 3)).frozen? ⟨X.heap.size, x, none⟩ = false := (World.frozen?_of_block (Below.heap_alloc _ _ _ (World.block_lt_of_cell? A _ cg))).trans fg
    have cgA2 : (A.alloc (.cells #[.int .i64 z] 3)).cell? ⟨X.heap.size, x, none⟩ = some (.slice VA2 n9 VC2) := cgA
    have cgD : A.drew.cell? ⟨X.heap.size, x, none⟩ = some (.slice VA2 n9 VC2) := cg
    have hHeld : A.drew.cell? ⟨X.heap.size + 1, 0, none⟩ = some (.slice (some ⟨X.heap.size, 0, none⟩) fn fn) ∧ A.drew.cell? ⟨V0.heap.size, 0, none⟩ = some (.int .i64 (x : Int)) := ⟨c6, c7⟩
    have hxm := HXM.out
    clear hri hpre2 hk3 hcl3 c6 c7 cg fg hown HBA hvb hn9 hxs9 hr9 hrz hKZ hst
    gi_wp2
    refine wpIn_region_round (S := fun W' => W'.cell? ⟨X.heap.size + 1, 0, none⟩ = some (.slice (some ⟨X.heap.size, 0, none⟩) fn fn) ∧ W'.cell? ⟨V0.heap.size, 0, none⟩ = some (.int .i64 (x : Int))) (by kernel_rfl) (by kernel_rfl) ?_
    refine tk6Z 0 1 2 3 4 6 hHeld ?_
    refine wpAnyH_ready (rs := [5, 7]) (by kernel_rfl) (by simp) ?_
    refine AllReadyH.cons rfl (fun K hK => ?_) (AllReadyH.cons rfl (fun K hK => ?_) AllReadyH.nil)
    ·go_simp
     refine hK.out _ _ (hHeld) ?_
     clear hK K hHeld
     intro hHeld
     try simp only [Act.put, nmZ]
     refine rd1Z 7 (fun K hK => ?_)
     go_simp
     refine hK.out _ _ (⟨c6A, c7A⟩) ?_
     clear hK K hHeld
     intro hHeld
     try simp only [Act.put, nmZ]
     refine rd1Z 8 (fun K hK => ?_)
     refine By.step_append_where rfl (.tmp 42) (.tmp 44) 44 rfl l1 3 i0 (.int .i64 0) 8 Tryz.underlying44 hi hz0 hz1 hz2 rfl _ _ _ rfl hownA ⟨A.heap.size, 0, none⟩ 1 (.int .i64 z) rfl hnewA rfl HLen1 HLen2 (by simp; omega) ?_
     intro v' w' h2 h3 h4
     obtain ⟨g', cap', hv'⟩ := ownsRow_succ h2
     subst hv'
     have c6' : w'.cell? ⟨X.heap.size + 1, 0, none⟩ = some (.slice (some ⟨X.heap.size, 0, none⟩) fn fn) := h3.cell c6A HN1.out
     have c7' : w'.cell? ⟨V0.heap.size, 0, none⟩ = some (.int .i64 (x : Int)) := h3.cell c7A HN2.out
     have cg' := h3.cell cgA HN3.out
     have fg' : w'.frozen? ⟨X.heap.size, x, none⟩ = false := (World.frozen?_of_block (h3.block X.heap.size (World.block_lt_of_cell? _ _ cgA) HN3.out)).trans fgA
     refine hK.out _ _ (⟨c6', c7'⟩) ?_
     clear hK K hHeld
     intro hHeld
     try simp only [Act.put, nmZ]
     refine rd1Z 9 (fun K hK => ?_)
     go_simp
     refine hK.out _ _ (hHeld) ?_
     clear hK K hHeld
     intro hHeld
     try simp only [Act.put, nmZ]
     refine rd1Z 10 (fun K hK => ?_)
     go_simp
     refine hK.out _ _ (⟨((Keeps.refl (fun k => k ≠ X.heap.size) _).setCell (p := ⟨X.heap.size, x, none⟩) (by simp) _).cell (by (try dsimp only); omega) c6', ((Keeps.refl (fun k => k ≠ X.heap.size) _).setCell (p := ⟨X.heap.size, x, none⟩) (by simp) _).cell (by (try dsimp only); omega) c7'⟩) ?_
     clear hK K hHeld
     intro hHeld
     try simp only [Act.put, nmZ]
     refine wpAnyH_done (by kernel_rfl) ?_ _
     refine (show Only _ .normal _ _ from ?_)
     exact ⟨(HEND.out _ _ h2 h3 h4).1, _, (HEND.out _ _ h2 h3 h4).2⟩
    ·go_simp
     refine hK.out _ _ (⟨c6A, c7A⟩) ?_
     clear hK K hHeld
     intro hHeld
     try simp only [Act.put, nmZ]
     refine rd1Z 5 (fun K hK => ?_)
     go_simp
     refine hK.out _ _ (⟨c6A, c7A⟩) ?_
     clear hK K hHeld
     intro hHeld
     try simp only [Act.put, nmZ]
     refine rd1Z 8 (fun K hK => ?_)
     refine By.step_append_where rfl (.tmp 42) (.tmp 44) 44 rfl l1 3 i0 (.int .i64 0) 8 Tryz.underlying44 hi hz0 hz1 hz2 rfl _ _ _ rfl hownA ⟨A.heap.size, 0, none⟩ 1 (.int .i64 z) rfl hnewA rfl HLen1 HLen2 (by simp; omega) ?_
     intro v' w' h2 h3 h4
     obtain ⟨g', cap', hv'⟩ := ownsRow_succ h2
     subst hv'
     have c6' : w'.cell? ⟨X.heap.size + 1, 0, none⟩ = some (.slice (some ⟨X.heap.size, 0, none⟩) fn fn) := h3.cell c6A HN1.out
     have c7' : w'.cell? ⟨V0.heap.size, 0, none⟩ = some (.int .i64 (x : Int)) := h3.cell c7A HN2.out
     have cg' := h3.cell cgA HN3.out
     have fg' : w'.frozen? ⟨X.heap.size, x, none⟩ = false := (World.frozen?_of_block (h3.block X.heap.size (World.block_lt_of_cell? _ _ cgA) HN3.out)).trans fgA
     refine hK.out _ _ (⟨c6', c7'⟩) ?_
     clear hK K hHeld
     intro hHeld
     try simp only [Act.put, nmZ]
     refine rd1Z 9 (fun K hK => ?_)
     go_simp
     refine hK.out _ _ (hHeld) ?_
     clear hK K hHeld
     intro hHeld
     try simp only [Act.put, nmZ]
     refine rd1Z 10 (fun K hK => ?_)
     go_simp
     refine hK.out _ _ (⟨((Keeps.refl (fun k => k ≠ X.heap.size) _).setCell (p := ⟨X.heap.size, x, none⟩) (by simp) _).cell (by (try dsimp only); omega) c6', ((Keeps.refl (fun k => k ≠ X.heap.size) _).setCell (p := ⟨X.heap.size, x, none⟩) (by simp) _).cell (by (try dsimp only); omega) c7'⟩) ?_
     clear hK K hHeld
     intro hHeld
     try simp only [Act.put, nmZ]
     refine wpAnyH_done (by kernel_rfl) ?_ _
     refine (show Only _ .normal _ _ from ?_)
     exact ⟨(HEND.out _ _ h2 h3 h4).1, _, (HEND.out _ _ h2 h3 h4).2⟩
   case done2 =>
    rintro A ⟨v, h1v, h2v, h3v, h4v⟩
    have hKYZ : Keeps (fun k => k < Y.heap.size ∧ k ≠ X.heap.size) Y Z := (HKY1.out.mono fun k hk _ => hk.2).trans (Keeps.of_below (U := fun k => k < Y.heap.size ∧ k ≠ X.heap.size) HBZ.out (fun k hk _ => by omega))
    have hall : Keeps (fun k => k < Y.heap.size ∧ k ≠ X.heap.size ∧ (dv x).ownBlock ≠ some k) Y A := (hKYZ.mono fun k hk _ => ⟨hk.1, hk.2.1⟩).trans (h4v.mono fun k hk _ => ⟨by omega, hk.2⟩)
    clear hr9 hrz hKZ hst
    gi_wp2
    refine ⟨hall.mono fun k hk _ => ⟨by unfold Two at hk; omega, by unfold Two at hk; omega, fun e => by have := HDB.out k e; unfold Two at hk; omega⟩, ⟨_, HGY.out.next HXM.out HXP.out (v := v) (by omega) (by omega) (by omega) h1v h2v ?_ (fun k h1k h2k h3k => hall.block k ⟨h1k, h2k, h3k⟩ h1k)⟩, HKW.out.trans (hall.mono fun k hk _ => ⟨by omega, by omega, fun e => by have := HDB.out k e; omega⟩)⟩
    rcases h3v with h3v | ⟨k, h3v, h5v⟩
    ·exact .inl h3v
    ·exact .inr ⟨k, h3v, by omega⟩
   case stop2 =>
    rintro ch pre2 A _ h
    exact h.elim
  case done =>
   rintro Y ⟨⟨vs, hgv⟩, hkw⟩ hD
   have hG := hgv.gr (L := GR) HGN.out HGR.out (by unfold maxLen; omega)
   have HCL := Hd (By.clean_own (some ⟨X.heap.size, 0, none⟩) fn Y.heap.size GR Y (by rw [HGN.out]; exact hG) (Nat.le_refl _) HSM.out)
   rw [HGC.out, HGN.out] at HCL
   have hlt := (Array.getElem?_eq_some_iff.1 hD).1
   have hXw := HX5.out.size
   have c6 : Y.cell? ⟨X.heap.size + 1, 0, none⟩ = some (.slice (some ⟨X.heap.size, 0, none⟩) fn fn) := hkw.cell (by (try dsimp only); omega) ((HGX.out.below HW15.out HGX.out.lt).cell 0)
   have HLT := Hd (show w5.heap.size < Y.heap.size ∧ X.heap.size < w5.heap.size from ⟨hlt, by omega⟩)
   have HKW := Hd hkw
   have HD := Hd hD
   clear hgv hG hkw hD hXw hlt hs1 hs4 hs5 hsz
   gi_wp2_with (refine ⟨trivial, ?_⟩; gi_at_call 54; refine (callsIn_wide.2 HCL.out).mono ?_; rintro e w9 ⟨rfl, ⟨base, hbase, hown⟩, hb9⟩; have HBS := Hd hbase; have HOW := Hd hown; have HB9 := Hd hb9; clear hbase hown hb9)
   have hlt := HLT.out
   have hsz := HSZ.out
   have hbs := HBS.out
   have hD9 : w9.heap[w5.heap.size]? = some (.deferred (some [])) := (HB9.out.block _ hlt.1).trans HD.out
   refine ⟨by simp, .inl ⟨_, _, rfl, run_takeDeferred hD9, ?_⟩⟩
   refine ⟨_, results_tmp rfl _ _ _, Y.heap.size, base, rfl, ?_, by omega, hbs, ?_⟩
   ·exact HOW.out.keep fun g hg hl => World.putObj_heap_other (by omega)
   ·have hall : Below w.heap.size w Y := (to_ HB0.out (to_ HBE.out HX5.out)).trans (HKW.out.below (by omega) (fun k hk => by omega))
    exact (to_ hall HB9.out).trans ⟨rfl, rfl, rfl, by simp, fun k hk => World.putObj_heap_other (by omega)⟩
  case stop =>
   rintro ch pre Y _ h _
   exact h.elim
end Go.Proofs.YtdaimeaofgbfpaaGreat.Bo
