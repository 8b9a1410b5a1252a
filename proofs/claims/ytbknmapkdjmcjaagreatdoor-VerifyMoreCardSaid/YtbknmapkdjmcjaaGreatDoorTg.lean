/-
  WALKS of layer 17: references and symbols.
-/
import Derived.Test.YtbknmapkdjmcjaaGreatDoorTf
import Derived.Test.YtbknmapkdjmcjaaGreatDoorJn
namespace Go.Proofs.YtbknmapkdjmcjaaGreatDoor.By
open Go.RowKit
open Mem Gm Rf
set_option linter.unusedSimpArgs false
set_option linter.unusedVariables false

theorem refA_drop (rs : List Rl) (i : Int) (q : Nat) (hq : q < rs.length) : refA (rs.drop q) i = if (rlAt rs q).1 = i then some (rlAt rs q) else refA (rs.drop (q + 1)) i := by
  have h : rs.drop q = rlAt rs q :: rs.drop (q + 1) := by
    rw [List.drop_eq_getElem_cons hq]
    have := rlAt_some hq
    rw [List.getElem?_eq_getElem hq] at this
    injection this with this
    rw [this]
  rw [h]
  rfl
def rfO (o : Option Rl) : Rl := o.getD (0, 0, false)
set_option maxHeartbeats 8000000 in
theorem ref_any (w : World) (AK AL AC AR : Option Addr) (nK cK nL cL nC cC nR cR : Nat) (x : Fn) (hF : FnW w AK nK cK AL nL cL AC nC cC AR nR cR x) (hn : nR ≤ 1000000) (i : Int) :
    Calls Tryz.prog 93 #[.agg #[.int .i64 x.k, .slice AK nK cK, .int .i64 x.pd, .bool x.ns, .int .i64 x.f, .int .i64 x.t, .slice AL nL cL, .slice AC nC cC, .slice AR nR cR], .int .i64 i] w fun e w' => e = .returned (.tuple #[.agg #[.int .i64 (rfO (refA x.rs i)).1, .int .i64 (rfO (refA x.rs i)).2.1, .bool (rfO (refA x.rs i)).2.2], .bool (refA x.rs i).isSome]) ∧ Below w.heap.size w w' := by
  obtain ⟨W1, hW1⟩ : ∃ W1, (w.alloc (.cells #[.int .i64 x.k, .slice AK nK cK, .int .i64 x.pd, .bool x.ns, .int .i64 x.f, .int .i64 x.t, .slice AL nL cL, .slice AC nC cC, .slice AR nR cR] 27)).alloc (.cells #[.int .i64 0, .int .i64 0, .bool false] 82) = W1 := ⟨_, rfl⟩
  have HB1 := Lib.hid (show Below w.heap.size w W1 from by rw [← hW1]; exact to_ (alloc_ _ _) (alloc_ _ _))
  have HZ := Lib.hid (show Blk W1 (w.heap.size + 1) 82 #[.int .i64 0, .int .i64 0, .bool false] from by rw [← hW1]; exact Blk.at_ _ _ (by simp))
  obtain ⟨p0, p1, p2, p3, p4, p5, p6, p7, p8⟩ := blk9 (show Blk W1 w.heap.size 27 #[.int .i64 x.k, .slice AK nK cK, .int .i64 x.pd, .bool x.ns, .int .i64 x.f, .int .i64 x.t, .slice AL nL cL, .slice AC nC cC, .slice AR nR cR] from by rw [← hW1]; exact (Blk.new w _ _).alloc _)
  have HR := Lib.hid (show RlL W1 AR nR cR x.rs from hF.hr.on HB1.out)
  have HRL := Lib.hid (show x.rs.length = nR from hF.hr.1)
  have HD := Lib.hid (fun q hq => refA_drop x.rs i q hq)
  have HD0 := Lib.hid (show refA x.rs i = refA (x.rs.drop 0) i from rfl)
  have HDE := Lib.hid (show refA (x.rs.drop nR) i = none from by rw [List.drop_of_length_le (by rw [HRL.out]; exact Nat.le_refl _)]; rfl)
  obtain ⟨ro, hro⟩ : ∃ r, refA x.rs i = r := ⟨_, rfl⟩
  rw [hro] at HD0 ⊢
  clear hro
  have HN := Lib.hid hn
  clear hF hn
  go_enter Tryz.func93, Tryz.ntmps93
  go_wp2_with fail
  clear hW1 p0 p1 p2 p3 p4 p5 p6 p7 p8
  go_loopw [11] (fun i9 wr => ∃ q : Nat, q ≤ nR ∧ i9 = .int .i64 (q : Int) ∧ Hid (Below W1.heap.size W1 wr) ∧ Hid (ro = refA (x.rs.drop q) i)) (fun i9 _ => nR - (intOf i9).toNat)
  case atStart => exact ⟨0, Nat.zero_le _, rfl, Lib.hid (Below.refl _ _), HD0⟩
  case round =>
    obtain ⟨q, hq, rfl, HBR, HE⟩ := hrel
    have hn9 : nR ≤ 1000000 := HN.out
    have HZ2 := Lib.hid (HZ.out.below HBR.out HZ.out.lt)
    obtain ⟨z0, z1, z2⟩ := blk_ce3 HZ2.out
    obtain ⟨f0, f1, f2⟩ := blk_fr3 HZ2.out
    have hsz : w.heap.size + 1 < wr.heap.size := HZ2.out.lt
    by_cases hlt : q < nR
    · have hqI : (q : Int) < (nR : Int) := by omega
      have HLT := Lib.hid hlt
      obtain ⟨ad, rfl, hadb, k0, k1, k2⟩ := (HR.out.on HBR.out).at_ hlt
      have HDQ := Lib.hid (HD.out q (by rw [HRL.out]; exact hlt))
      generalize rlAt x.rs q = r at k0 k1 k2 HDQ
      obtain ⟨r1, r2, r3⟩ := r
      dsimp only at k0 k1 k2
      by_cases hr : r1 = i
      · subst hr
        have HF := Lib.hid (show ro = some (r1, r2, r3) from by rw [HE.out, HDQ.out, if_pos rfl])
        obtain ⟨wf, hwf⟩ : ∃ wf, wr.alloc (.cells #[.int .i64 r1, .int .i64 r2, .bool r3] 82) = wf := ⟨_, rfl⟩
        have HBF := Lib.hid (show Below wr.heap.size wr wf from by rw [← hwf]; exact alloc_ _ _)
        have HZF := Lib.hid (HZ2.out.below HBF.out HZ2.out.lt)
        have HYF := Lib.hid (show Blk wf wr.heap.size 82 #[.int .i64 r1, .int .i64 r2, .bool r3] from by rw [← hwf]; exact Blk.new wr _ _)
        have HPT := Lib.hid (blk_put3 HZF.out (.int .i64 r1) (.int .i64 r2) (.bool r3))
        have HPB := Lib.hid (below_put3 (to_ HB1.out (to_ HBR.out HBF.out)) (w.heap.size + 1) (by omega) (.int .i64 r1) (.int .i64 r2) (.bool r3))
        obtain ⟨z0', z1', z2'⟩ := blk_ce3 HZF.out
        obtain ⟨f0', f1', f2'⟩ := blk_fr3 HZF.out
        obtain ⟨y0, y1, y2⟩ := blk_ce3 HYF.out
        clear z0 z1 z2 f0 f1 f2
        go_wp2_with fail
        clear hwf z0' z1' z2' f0' f1' f2' y0 y1 y2 k0 k1 k2
        obtain ⟨c0, c1, c2⟩ := blk_ce3 HPT.out
        refine bodyPost_ret (v := .tuple #[.agg #[.int .i64 r1, .int .i64 r2, .bool r3], .bool true]) (by simp [results, Tryz.results93, go_sem, c0, c1, c2]) rfl ?_
        rw [HF.out]
        exact ⟨rfl, HPB.out⟩
      · have hr1 : (r1 == i) = false := by simpa using hr
        have HNX := Lib.hid (show ro = refA (x.rs.drop (q + 1)) i from by rw [HE.out, HDQ.out, if_neg hr])
        have HBN := Lib.hid (to_ HBR.out (alloc_ wr (.cells #[.int .i64 r1, .int .i64 r2, .bool r3] 82)))
        clear hr z0 z1 z2 f0 f1 f2
        go_wp2_with fail
        clear k0 k1 k2
        go_roundw
        case rel => exact ⟨q + 1, by have := HLT.out; omega, by go_num, HBN, HNX⟩
        case measure => have := HLT.out; simp [intOf]; omega
    · obtain rfl : q = nR := by omega
      have HF := Lib.hid (show ro = none from by rw [HE.out, HDE.out])
      have HPT := Lib.hid (blk_put3 HZ2.out (.int .i64 0) (.int .i64 0) (.bool false))
      have HPB := Lib.hid (below_put3 (to_ HB1.out HBR.out) (w.heap.size + 1) (by omega) (.int .i64 0) (.int .i64 0) (.bool false))
      go_wp2_with fail
      clear z0 z1 z2 f0 f1 f2
      obtain ⟨c0, c1, c2⟩ := blk_ce3 HPT.out
      refine bodyPost_ret (v := .tuple #[.agg #[.int .i64 0, .int .i64 0, .bool false], .bool false]) (by simp [results, Tryz.results93, go_sem, c0, c1, c2]) rfl ?_
      rw [HF.out]
      exact ⟨rfl, HPB.out⟩

set_option maxHeartbeats 4000000 in
theorem vsym_any (w : World) (AK AL AC AR : Option Addr) (nK cK nL cL nC cC nR cR : Nat) (x : Fn) (hF : FnW w AK nK cK AL nL cL AC nC cC AR nR cR x) (hn : nR ≤ 1000000) (i : Int) : Calls Tryz.prog 37 #[.agg #[.int .i64 x.k, .slice AK nK cK, .int .i64 x.pd, .bool x.ns, .int .i64 x.f, .int .i64 x.t, .slice AL nL cL, .slice AC nC cC, .slice AR nR cR], .int .i64 i] w fun e w' => e = .returned (.int .i64 (veS x i)) ∧ Below w.heap.size w w' := by
  obtain ⟨W1, hW1⟩ : ∃ W1, w.alloc (.cells #[.int .i64 x.k, .slice AK nK cK, .int .i64 x.pd, .bool x.ns, .int .i64 x.f, .int .i64 x.t, .slice AL nL cL, .slice AC nC cC, .slice AR nR cR] 27) = W1 := ⟨_, rfl⟩
  have HB1 := Lib.hid (show Below w.heap.size w W1 from by rw [← hW1]; exact alloc_ _ _)
  obtain ⟨p0, p1, p2, p3, p4, p5, p6, p7, p8⟩ := blk9 (show Blk W1 w.heap.size 27 #[.int .i64 x.k, .slice AK nK cK, .int .i64 x.pd, .bool x.ns, .int .i64 x.f, .int .i64 x.t, .slice AL nL cL, .slice AC nC cC, .slice AR nR cR] from by rw [← hW1]; exact Blk.new w _ _)
  have HR := Lib.hid (ref_any W1 AK AL AC AR nK cK nL cL nC cC nR cR x (hF.on HB1.out) hn i)
  unfold veS
  clear hF
  cases hro : refA x.rs i with
  | none =>
    rw [hro] at HR
    clear hro
    go_enter Tryz.func37, Tryz.ntmps37
    go_wp2_with fail
    clear hW1 p0 p1 p2 p3 p4 p5 p6 p7 p8
    refine HR.out.mono ?_
    rintro e w1 ⟨rfl, b1⟩
    have HB2 := Lib.hid (to_ (to_ HB1.out b1) (alloc_ w1 (.cells #[.int .i64 0, .int .i64 0, .bool false] 82)))
    have HB3 := Lib.hid (to_ HB1.out b1)
    clear b1
    unfold rfO
    dsimp only [Option.getD, Option.isSome]
    go_wp2_with fail
    go_ret
    exact ⟨rfl, HB2.out⟩
  | some r =>
    rw [hro] at HR
    clear hro
    obtain ⟨r1, r2, r3⟩ := r
    dsimp only [rfO, Option.getD, Option.isSome] at HR
    go_enter Tryz.func37, Tryz.ntmps37
    go_wp2_with fail
    clear hW1 p0 p1 p2 p3 p4 p5 p6 p7 p8
    refine HR.out.mono ?_
    rintro e w1 ⟨rfl, b1⟩
    have HB2 := Lib.hid (to_ (to_ HB1.out b1) (alloc_ w1 (.cells #[.int .i64 r1, .int .i64 r2, .bool r3] 82)))
    clear b1
    go_wp2_with fail
    go_ret
    exact ⟨rfl, HB2.out⟩
end Go.Proofs.YtbknmapkdjmcjaaGreatDoor.By
