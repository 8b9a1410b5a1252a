/-
  WALKS of layer 17: symbols, and classes that are called.
-/
import Derived.Test.YtbknmapkdjmcjaaGreatDoorTg
namespace Go.Proofs.YtbknmapkdjmcjaaGreatDoor.By
open Go.RowKit
open Mem Gm Rf
set_option linter.unusedSimpArgs false
set_option linter.unusedVariables false

theorem blk5f {w : World} {g : Nat} {t : TypeId} {cs : Array Value} (h : Blk w g t cs) : w.frozen? ⟨g, 0, none⟩ = false ∧ w.frozen? ⟨g, 1, none⟩ = false ∧ w.frozen? ⟨g, 2, none⟩ = false ∧ w.frozen? ⟨g, 3, none⟩ = false ∧ w.frozen? ⟨g, 4, none⟩ = false :=
  ⟨h.frozen 0, h.frozen 1, h.frozen 2, h.frozen 3, h.frozen 4⟩
theorem blk_put5 {w : World} {g : Nat} {t : TypeId} {a b c d e : Value} (h : Blk w g t #[a, b, c, d, e]) (a' b' c' d' e' : Value) : Blk ((((((w.setCell ⟨g, 0, none⟩ a').setCell ⟨g, 1, none⟩ b').setCell ⟨g, 2, none⟩ c').setCell ⟨g, 3, none⟩ d').setCell ⟨g, 4, none⟩ e')) g t #[a', b', c', d', e'] :=
  ((((h.stored 0 a').stored 1 b').stored 2 c').stored 3 d').stored 4 e'
theorem below_put5 {B : Nat} {w0 w : World} (h : Below B w0 w) (r : Nat) (hr : B ≤ r) (a b c d e : Value) : Below B w0 ((((((w.setCell ⟨r, 0, none⟩ a).setCell ⟨r, 1, none⟩ b).setCell ⟨r, 2, none⟩ c).setCell ⟨r, 3, none⟩ d).setCell ⟨r, 4, none⟩ e)) :=
  (((((h.setCell (p := ⟨r, 0, none⟩) hr _).setCell (p := ⟨r, 1, none⟩) hr _).setCell (p := ⟨r, 2, none⟩) hr _).setCell (p := ⟨r, 3, none⟩) hr _).setCell (p := ⟨r, 4, none⟩) hr _)
theorem symA_none {rs : List Rl} {l : List Sy} {i : Int} (h : refA rs i = none) : symA rs l i = none := by unfold symA; rw [h]
theorem symA_some {rs : List Rl} {l : List Sy} {i : Int} {r : Rl} (h : refA rs i = some r) : symA rs l i = if inL r.2.1 l.length = true then some (syAt l r.2.1.toNat) else none := by unfold symA; rw [h]
set_option maxHeartbeats 1000000 in
theorem sym_any (w : World) (AK AL AC AR : Option Addr) (nK cK nL cL nC cC nR cR : Nat) (x : Fn) (hF : FnW w AK nK cK AL nL cL AC nC cC AR nR cR x) (hn : nR ≤ 1000000) (AS : Option Addr) (nS cS : Nat) (l : List Sy) (hS : SyL w AS nS cS l) (i : Int) :
    Calls Tryz.prog 94 #[.agg #[.int .i64 x.k, .slice AK nK cK, .int .i64 x.pd, .bool x.ns, .int .i64 x.f, .int .i64 x.t, .slice AL nL cL, .slice AC nC cC, .slice AR nR cR], .slice AS nS cS, .int .i64 i] w fun e w' => e = .returned (.tuple #[.agg #[.string (symO x.rs l i).1, .bool (symO x.rs l i).2.1, .int .i64 (symO x.rs l i).2.2.1, .int .i64 (symO x.rs l i).2.2.2.1, .int .i64 (symO x.rs l i).2.2.2.2], .bool (symA x.rs l i).isSome]) ∧ Below w.heap.size w w' := by
  obtain ⟨W1, hW1⟩ : ∃ W1, (w.alloc (.cells #[.int .i64 x.k, .slice AK nK cK, .int .i64 x.pd, .bool x.ns, .int .i64 x.f, .int .i64 x.t, .slice AL nL cL, .slice AC nC cC, .slice AR nR cR] 27)).alloc (.cells #[.string ⟨#[]⟩, .bool false, .int .i64 0, .int .i64 0, .int .i64 0] 68) = W1 := ⟨_, rfl⟩
  have HB1 := Lib.hid (show Below w.heap.size w W1 from by rw [← hW1]; exact to_ (alloc_ _ _) (alloc_ _ _))
  have HZ := Lib.hid (show Blk W1 (w.heap.size + 1) 68 #[.string ⟨#[]⟩, .bool false, .int .i64 0, .int .i64 0, .int .i64 0] from by rw [← hW1]; exact Blk.at_ _ _ (by simp))
  obtain ⟨p0, p1, p2, p3, p4, p5, p6, p7, p8⟩ := blk9 (show Blk W1 w.heap.size 27 #[.int .i64 x.k, .slice AK nK cK, .int .i64 x.pd, .bool x.ns, .int .i64 x.f, .int .i64 x.t, .slice AL nL cL, .slice AC nC cC, .slice AR nR cR] from by rw [← hW1]; exact (Blk.new w _ _).alloc _)
  have HR := Lib.hid (ref_any W1 AK AL AC AR nK cK nL cL nC cC nR cR x (hF.on HB1.out) hn i)
  have HS := Lib.hid (hS.on HB1.out)
  have hSl : l.length = nS := hS.1
  have HSL := Lib.hid hSl
  unfold symO
  clear hF hS
  cases hro : refA x.rs i with
  | none =>
    rw [hro] at HR
    rw [symA_none hro]
    clear hro hSl
    dsimp only [rfO, Option.getD, Option.isSome] at HR ⊢
    go_enter Tryz.func94, Tryz.ntmps94
    go_wp2_with fail
    clear hW1 p0 p1 p2 p3 p4 p5 p6 p7 p8
    refine HR.out.mono ?_
    rintro e w1 ⟨rfl, b1⟩
    have HZ1 := Lib.hid (HZ.out.below b1 HZ.out.lt)
    have HPT := Lib.hid (((blk_put5 HZ1.out (.string ⟨#[]⟩) (.bool false) (.int .i64 0) (.int .i64 0) (.int .i64 0))).alloc (.cells #[.int .i64 0, .int .i64 0, .bool false] 82))
    have HPB := Lib.hid (to_ (below_put5 (to_ HB1.out b1) (w.heap.size + 1) (by omega) (.string ⟨#[]⟩) (.bool false) (.int .i64 0) (.int .i64 0) (.int .i64 0)) (alloc_ _ (.cells #[.int .i64 0, .int .i64 0, .bool false] 82)))
    obtain ⟨z0, z1, z2, z3, z4⟩ := blk5 HZ1.out
    obtain ⟨f0, f1, f2, f3, f4⟩ := blk5f HZ1.out
    have hlt : w.heap.size + 1 < w1.heap.size := HZ1.out.lt
    clear b1
    go_wp2_with fail
    clear z0 z1 z2 z3 z4 f0 f1 f2 f3 f4
    obtain ⟨z0, z1, z2, z3, z4⟩ := blk5 HPT.out
    refine bodyPost_ret (v := .tuple #[.agg #[.string ⟨#[]⟩, .bool false, .int .i64 0, .int .i64 0, .int .i64 0], .bool false]) (by simp [results, Tryz.results94, go_sem, z0, z1, z2, z3, z4]) rfl ?_
    exact ⟨rfl, HPB.out⟩
  | some r =>
    rw [hro] at HR
    rw [symA_some hro, hSl]
    clear hro hSl
    obtain ⟨r1, r2, r3⟩ := r
    dsimp only [rfO, Option.getD, Option.isSome] at HR
    dsimp only
    have HP := Lib.hid (fun W => inl_any r2 nS W)
    cases hin : inL r2 nS with
    | false =>
      rw [hin] at HP
      rw [if_neg (by decide)]
      clear hin
      go_enter Tryz.func94, Tryz.ntmps94
      go_wp2_with fail
      clear hW1 p0 p1 p2 p3 p4 p5 p6 p7 p8
      refine HR.out.mono ?_
      rintro e w1 ⟨rfl, b1⟩
      obtain ⟨wf, hwf⟩ : ∃ wf, w1.alloc (.cells #[.int .i64 r1, .int .i64 r2, .bool r3] 82) = wf := ⟨_, rfl⟩
      have HBF := Lib.hid (show Below W1.heap.size W1 wf from by rw [← hwf]; exact to_ b1 (alloc_ _ _))
      have HZF := Lib.hid (HZ.out.below HBF.out HZ.out.lt)
      have HYF := Lib.hid (show Blk wf w1.heap.size 82 #[.int .i64 r1, .int .i64 r2, .bool r3] from by rw [← hwf]; exact Blk.new w1 _ _)
      have HPT := Lib.hid (blk_put5 HZF.out (.string ⟨#[]⟩) (.bool false) (.int .i64 0) (.int .i64 0) (.int .i64 0))
      have HPB := Lib.hid (below_put5 (to_ HB1.out HBF.out) (w.heap.size + 1) (by omega) (.string ⟨#[]⟩) (.bool false) (.int .i64 0) (.int .i64 0) (.int .i64 0))
      obtain ⟨z0, z1, z2, z3, z4⟩ := blk5 HZF.out
      obtain ⟨f0, f1, f2, f3, f4⟩ := blk5f HZF.out
      obtain ⟨y0, y1, y2⟩ := blk_ce3 HYF.out
      clear b1
      go_wp2_with fail
      refine (HP.out _).mono ?_
      rintro e w2 ⟨rfl, rfl⟩
      go_wp2_with fail
      clear hwf z0 z1 z2 z3 z4 f0 f1 f2 f3 f4 y0 y1 y2
      obtain ⟨z0, z1, z2, z3, z4⟩ := blk5 HPT.out
      refine bodyPost_ret (v := .tuple #[.agg #[.string ⟨#[]⟩, .bool false, .int .i64 0, .int .i64 0, .int .i64 0], .bool false]) (by simp [results, Tryz.results94, go_sem, z0, z1, z2, z3, z4]) rfl ?_
      exact ⟨rfl, HPB.out⟩
    | true =>
      rw [hin] at HP
      rw [if_pos rfl]
      have hi2 : 0 ≤ r2 ∧ r2 < (nS : Int) := by unfold inL at hin; exact of_decide_eq_true hin
      obtain ⟨q, rfl⟩ := Int.eq_ofNat_of_zero_le hi2.1
      have hqI : (q : Int) < (nS : Int) := hi2.2
      have HQ := Lib.hid (show q < nS by omega)
      rw [show ((q : Int).toNat) = q from by simp]
      dsimp only [Option.getD, Option.isSome]
      have HAT := Lib.hid (fun W (hb : Below W1.heap.size W1 W) => (HS.out.on hb).at_ HQ.out)
      generalize syAt l q = s at HAT ⊢
      obtain ⟨s0, s1, s2, s3, s4⟩ := s
      dsimp only at HAT ⊢
      clear hin hi2
      go_enter Tryz.func94, Tryz.ntmps94
      go_wp2_with fail
      clear hW1 p0 p1 p2 p3 p4 p5 p6 p7 p8
      refine HR.out.mono ?_
      rintro e w1 ⟨rfl, b1⟩
      obtain ⟨wf, hwf⟩ : ∃ wf, w1.alloc (.cells #[.int .i64 r1, .int .i64 (q : Int), .bool r3] 82) = wf := ⟨_, rfl⟩
      have HBF := Lib.hid (show Below W1.heap.size W1 wf from by rw [← hwf]; exact to_ b1 (alloc_ _ _))
      have HZF := Lib.hid (HZ.out.below HBF.out HZ.out.lt)
      have HYF := Lib.hid (show Blk wf w1.heap.size 82 #[.int .i64 r1, .int .i64 (q : Int), .bool r3] from by rw [← hwf]; exact Blk.new w1 _ _)
      obtain ⟨ad, rfl, hadb, k0, k1, k2, k3, k4⟩ := HAT.out wf HBF.out
      have HPT := Lib.hid (blk_put5 HZF.out (.string s0) (.bool s1) (.int .i64 s2) (.int .i64 s3) (.int .i64 s4))
      have HPB := Lib.hid (below_put5 (to_ HB1.out HBF.out) (w.heap.size + 1) (by omega) (.string s0) (.bool s1) (.int .i64 s2) (.int .i64 s3) (.int .i64 s4))
      obtain ⟨z0, z1, z2, z3, z4⟩ := blk5 HZF.out
      obtain ⟨f0, f1, f2, f3, f4⟩ := blk5f HZF.out
      obtain ⟨y0, y1, y2⟩ := blk_ce3 HYF.out
      clear b1
      go_wp2_with fail
      refine (HP.out _).mono ?_
      rintro e w2 ⟨rfl, rfl⟩
      go_wp2_with fail
      clear hwf z0 z1 z2 z3 z4 f0 f1 f2 f3 f4 y0 y1 y2 k0 k1 k2 k3 k4
      obtain ⟨z0, z1, z2, z3, z4⟩ := blk5 HPT.out
      refine bodyPost_ret (v := .tuple #[.agg #[.string s0, .bool s1, .int .i64 s2, .int .i64 s3, .int .i64 s4], .bool true]) (by simp [results, Tryz.results94, go_sem, z0, z1, z2, z3, z4]) rfl ?_
      exact ⟨rfl, HPB.out⟩
def knV (c : Int) : Int := if Si.isC c = true then c else 0
set_option maxHeartbeats 2000000 in
theorem kn_any (c : Int) (w : World) : Calls Tryz.prog 105 #[.int .i64 c] w fun e w' => e = .returned (.tuple #[.int .i64 (knV c), .bool (Si.isC c)]) ∧ w = w' := by
  have HI := Lib.hid (fun W => Si.is_any c W)
  unfold knV
  cases hc : Si.isC c with
  | false =>
    rw [hc] at HI
    rw [if_neg (by decide)]
    clear hc
    go_enter Tryz.func105, Tryz.ntmps105
    go_wp2_with fail
    refine (HI.out _).mono ?_
    rintro e w2 ⟨rfl, rfl⟩
    go_wp2_with fail
    refine bodyPost_ret (results_tmp2 rfl _ _ _) rfl ?_
    exact ⟨rfl, rfl⟩
  | true =>
    rw [hc] at HI
    rw [if_pos rfl]
    clear hc
    go_enter Tryz.func105, Tryz.ntmps105
    go_wp2_with fail
    refine (HI.out _).mono ?_
    rintro e w2 ⟨rfl, rfl⟩
    go_wp2_with fail
    refine bodyPost_ret (results_tmp2 rfl _ _ _) rfl ?_
    exact ⟨rfl, rfl⟩
end Go.Proofs.YtbknmapkdjmcjaaGreatDoor.By
