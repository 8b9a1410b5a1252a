/-
  WALKS of layer 13: the document's own Get.
-/
import Derived.Test.YtckpbdphilifoaaWu
namespace Go.Proofs.Ytckpbdphilifoaa.By
open Go.RowKit
open Mem Gm Rf
set_option linter.unusedSimpArgs false

theorem step_append_own {P : Program} {ops : Array Oper} {o : Oper} {a : Act} {w : World} {K : Act → World → Prop} {Q : Exit → Act → World → Prop} {Z : Prop}
    (hgd : o.guard = none) (s x : Operand) (t : TypeId) (ho : o.op = .call { callee := .builtin .append, args := #[s, x], argTypes := #[t, t] })
    (base : Nat) (e : TypeId) (i : TypeInfo) (z : Value) (size bytes : Nat) (ht : P.underlying t = some (.slice e)) (hi : P.info? e = some i) (hz : i.zero = some z)
    (hsize : i.size = size) (hby : i.bytes = bytes) (hzs : z.cells.size = size) (hsz : 0 < size)
    (v : Value) (n : Nat) (xs : List Value) (hs : a.eval s = v) (hown : w.ownsRow base e size v n xs)
    (ad : Addr) (c : Nat) (news : List Value) (hx : a.eval x = .slice (some ad) 1 c) (hl : news.length = 1 * size) (hu : ∀ j u, news[j]? = some u → w.cell? (ad.add j) = some u) (h1 : ∀ u ∈ news, u.oneCell' = true)
    (h63 : n + 1 ≤ maxLen) (hbytes : (n + 1) * bytes ≤ 140737488355328) (hbase : base ≤ w.heap.size)
    (hK : ∀ v' w', w'.ownsRow base e size v' (n + 1) (xs ++ news) → w.grownBy w' v.ownBlock → K (a.put o.dst v') w') :
    if Region.wanted o (yielded ops a.tmps) = true then Oper.wp P o a w K Q else Z := by
  have hw : Region.wanted o (yielded ops a.tmps) = true := by simp [Region.wanted, hgd]
  rw [if_pos hw]
  obtain ⟨v', w', hr, h2, h3, _⟩ := run_append_own (P := P) w base t o.type e i z size bytes ht hi hz hsize hby hzs hsz v n xs hown ad 1 c news hl hu h1 h63 hbytes hbase
  unfold Oper.wp execOp
  simp only [ho, resolve, invoke, builtin, Sem.run_bind, Sem.run_pure, Result.andThen_ok, List.map_toArray, List.map_cons, List.map_nil, hs, hx, hr]
  exact hK v' w' h2 h3

def RgAns (r : List Rn × Int × Std) (w : World) (A : Option Addr) (n c : Nat) (e : Ending) (w' : World) : Prop :=
  ∃ A2 c2, e = .returned (.tuple #[.agg (rdC A n c r.2.2), .slice A2 r.1.length c2, .int .i64 r.2.1]) ∧ RnL w' A2 r.1.length c2 r.1 ∧ Below w.heap.size w w'

theorem five_in (wr : World) (k : Nat) (hk : k < 5) : (wr.alloc (.cells #[.int .i64 2, .int .i64 2, .int .i64 2, .int .i64 2, .int .i64 1] 3)).cell? ⟨wr.heap.size, k, none⟩ = some (.int .i64 (wdN k)) := by
  rw [(Blk.new wr _ _).cell]
  match k, hk with
  | 0, _ => rfl
  | 1, _ => rfl
  | 2, _ => rfl
  | 3, _ => rfl
  | 4, _ => rfl
theorem vl_five (l : List UInt8) (s : Std) : vlN l s 5 = [rvS l (sK l s 0) 2, rvS l (sK l s 1) 2, rvS l (sK l s 2) 2, rvS l (sK l s 3) 2, pend l s] := rfl

set_option maxRecDepth 100000 in
set_option maxHeartbeats 8000000 in
theorem rgetRuns_any (w : World) (A : Option Addr) (n c : Nat) (l : List UInt8) (s : Std) (hn : l.length = n) (hl : n ≤ 1000000) (hs : s.1 ≤ n) (hv : SlV w w.heap.size (.slice A n c) (u8s l)) :
    Calls Try.prog 23 #[.agg (rdC A n c s)] w (RgAns (gets l (rvS l s 2).toNat (pgS l s 2)) w A n c) := by
  obtain ⟨i0, hi, hz0, hz1, hz2⟩ := info_parts infoRn
  obtain ⟨N, hN⟩ : ∃ N, (rvS l s 2).toNat = N := ⟨_, rfl⟩
  have h2 := num_two l s
  have hNI : rvS l s 2 = (N : Int) := by omega
  have HN9 := Lib.hid (show N ≤ 65535 by omega)
  obtain ⟨s0, hs0⟩ : ∃ s0, pgS l s 2 = s0 := ⟨_, rfl⟩
  have HNUM := Lib.hid (show ∀ W, Below w.heap.size w W → Calls Try.prog 47 #[.agg #[.slice A n c, .int .i64 (s.1 : Int), .bool (!s.2)], .int .i64 2, .bool false] W fun e w' => e = .returned (.tuple #[.agg #[.slice A n c, .int .i64 (s0.1 : Int), .bool (!s0.2)], .int .i64 (N : Int)]) ∧ Below W.heap.size W w' from fun W hb => by
    have := rnum_any W w.heap.size A c l s.1 s.2 false 2 (by omega) (by omega) (by rw [hn]; exact hv.below hb)
    rw [hn, show readV false l s.1 s.2 2 = (N : Int) from hNI] at this
    rw [← hs0]; exact this)
  have HNS := Lib.hid (show ∀ W g0 (s' : Std), s'.1 ≤ n → Below w.heap.size w W → g0 < W.heap.size → (∀ k : Nat, k < 5 → W.cell? ⟨g0, k, none⟩ = some (.int .i64 (wdN k))) → Calls Try.prog 48 #[.agg (rdC A n c s'), .slice (some ⟨g0, 0, none⟩) 5 5] W (NmAns l s' W A n c) from fun W g0 s' hs' hb hg hw => nums_any W A n c g0 l s' hn hl hs' ((hv.below hb).more hb.size) hg hw)
  have HLE := Lib.hid (show ∀ s' : Std, s'.1 ≤ n → (s5 l s').1 ≤ n from fun s' h => by rw [← hn] at h ⊢; rw [← stN_five]; exact stN_le h 5)
  have HL0 := Lib.hid (show s0.1 ≤ n from by rw [← hs0, ← hn]; exact pgS_le (by omega) 2)
  obtain ⟨R, hR⟩ : ∃ R, gets l N s0 = R := ⟨_, rfl⟩
  have HR0 := Lib.hid (show R = cmb [] (gets l N s0) from by rw [cmb_nil _ (gets_nil l N s0)]; exact hR.symm)
  rw [hN, hs0, hR]
  obtain ⟨W0, hW0⟩ : ∃ W0, (w.alloc (.cells (rdC A n c s) 44)).alloc (.cells #[.slice none 0 0, .int .i64 0, .bool false] 44) = W0 := ⟨_, rfl⟩
  have HS0 := Lib.hid (show Blk W0 w.heap.size 44 (rdC A n c s) ∧ Blk W0 (w.heap.size + 1) 44 #[.slice none 0 0, .int .i64 0, .bool false] ∧ Below w.heap.size w W0 from by
    rw [← hW0]
    refine ⟨(Blk.new w _ _).alloc _, ?_, to_ (alloc_ _ _) (alloc_ _ _)⟩
    have := Blk.new (w.alloc (.cells (rdC A n c s) 44)) 44 #[.slice none 0 0, .int .i64 0, .bool false]
    rwa [World.size_alloc] at this)
  clear hv hn hs hl h2 hNI hN hs0 hR
  unfold rdC at hW0 HS0
  obtain ⟨x0, x1, x2⟩ := blk_ce3 HS0.out.1
  obtain ⟨f0, f1, f2⟩ := blk_fr3 HS0.out.1
  unfold rdC
  go_enter Try.func23, Try.ntmps23
  go_wp2_with (go_at_call 47; go_loud (refine (HNUM.out _ HS0.out.2.2).mono ?_; rintro e w1 ⟨rfl, b1⟩; have hxb := HS0.out.1.below b1 HS0.out.1.lt; have HX1 := Lib.hid hxb; have HR1 := Lib.hid (HS0.out.2.1.below b1 HS0.out.2.1.lt); have HB1 := Lib.hid (to_ HS0.out.2.2 b1); have HZ1 := Lib.hid (Nat.lt_of_lt_of_le HS0.out.2.1.lt b1.size); clear x0 x1 x2 f0 f1 f2 b1; obtain ⟨x0, x1, x2⟩ := blk_ce3 hxb; obtain ⟨f0, f1, f2⟩ := blk_fr3 hxb; clear hxb))
  clear hW0 x0 x1 x2 f0 f1 f2
  go_loopw [6, 7] (fun v i wr => ∃ (k : Nat) (s' : Std) (xs : List Rn), k ≤ N ∧ i = .int .i64 (k : Int) ∧ Hid (xs.length = k) ∧ Hid (s'.1 ≤ n) ∧ Blk wr w.heap.size 44 (rdC A n c s') ∧ Blk wr (w.heap.size + 1) 44 #[.slice none 0 0, .int .i64 0, .bool false] ∧ wr.ownsRow (w.heap.size + 2) 60 5 v k (flRn xs) ∧ Below w.heap.size w wr ∧ Hid (w.heap.size + 2 ≤ wr.heap.size) ∧ Hid (R = cmb xs (gets l (N - k) s'))) (fun _ i _ => N - (intOf i).toNat)
  case atStart => exact ⟨0, s0, [], Nat.zero_le _, rfl, Lib.hid rfl, Lib.hid HL0.out, blk_put3 HX1.out _ _ _, blk_away3 HR1.out _ (by omega) _ _ _, World.ownsRow_nil _ _ _ _, below_put3 HB1.out _ (Nat.le_refl _) _ _ _, Lib.hid (by have := HZ1.out; simp; omega), Lib.hid HR0.out⟩
  case round =>
    obtain ⟨k, s', xs, hk, rfl, HXL, HSL, hxb, hrb, hown, hbel, HSZ, HINV⟩ := hrel
    have HXB := Lib.hid (show Blk wr w.heap.size 44 #[.slice A n c, .int .i64 (s'.1 : Int), .bool (!s'.2)] from hxb)
    have HRB := Lib.hid hrb
    have HOW := Lib.hid hown
    have HBE := Lib.hid hbel
    by_cases hlt : k < N
    · have hkI : (k : Int) < (N : Int) := by omega
      have hk9 : k ≤ 65535 := by have := HN9.out; omega
      have hsub : N - k = (N - (k + 1)) + 1 := by omega
      obtain ⟨x0, x1, x2⟩ := blk_ce3 HXB.out
      obtain ⟨t, ht⟩ : ∃ t, s5 l s' = t := ⟨_, rfl⟩
      have HTL := Lib.hid (show t.1 ≤ n from by rw [← ht]; exact HLE.out s' HSL.out)
      obtain ⟨v0, hv0⟩ : ∃ z, rvS l (sK l s' 0) 2 = z := ⟨_, rfl⟩
      obtain ⟨v1, hv1⟩ : ∃ z, rvS l (sK l s' 1) 2 = z := ⟨_, rfl⟩
      obtain ⟨v2, hv2⟩ : ∃ z, rvS l (sK l s' 2) 2 = z := ⟨_, rfl⟩
      obtain ⟨v3, hv3⟩ : ∃ z, rvS l (sK l s' 3) 2 = z := ⟨_, rfl⟩
      obtain ⟨z, hz⟩ : ∃ z, pend l s' = z := ⟨_, rfl⟩
      have hvl : vlN l s' 5 = [v0, v1, v2, v3, z] := by rw [vl_five, hv0, hv1, hv2, hv3, hz]
      have HNN := Lib.hid (show Calls Try.prog 48 #[.agg #[.slice A n c, .int .i64 (s'.1 : Int), .bool (!s'.2)], .slice (some ⟨wr.heap.size, 0, none⟩) 5 5] (wr.alloc (.cells #[.int .i64 2, .int .i64 2, .int .i64 2, .int .i64 2, .int .i64 1] 3)) fun e w' => ∃ ad c2, e = .returned (.tuple #[.agg #[.slice A n c, .int .i64 (t.1 : Int), .bool (!t.2)], .slice (some ad) 5 c2]) ∧ (∀ j u, [Value.int .i64 v0, .int .i64 v1, .int .i64 v2, .int .i64 v3, .int .i64 z][j]? = some u → w'.cell? (ad.add j) = some u) ∧ Below wr.heap.size wr w' ∧ wr.heap.size ≤ ad.block from (HNS.out (wr.alloc (.cells #[.int .i64 2, .int .i64 2, .int .i64 2, .int .i64 2, .int .i64 1] 3)) wr.heap.size s' HSL.out (to_ HBE.out (alloc_ _ _)) (by simp) (five_in wr)).mono fun e w' hh => by
        obtain ⟨A2, c2, h1, h2, h3, h4⟩ := hh
        rw [ht] at h1
        rw [hvl] at h2
        rcases h2.inv with ⟨_, h, _⟩ | ⟨ad, e2, _, _, _, hr⟩
        · omega
        · subst e2
          exact ⟨ad, c2, h1, fun j u hu => (hr j u hu).2, to_ (alloc_ _ _) h3, by have := h4 ad rfl; rw [World.size_alloc] at this; omega⟩)
      have HE := Lib.hid (show tkE l s' = (if t.2 = false then 5 else if 1 < z then 3 else 0) from by unfold tkE; rw [ht, hz])
      have HX := Lib.hid (show tkX l s' = (v0, v1, v2, z == 1, v3) from by unfold tkX; rw [hv0, hv1, hv2, hv3, hz])
      have HST := Lib.hid ht
      clear hxb hrb hown hbel hv0 hv1 hv2 hv3 hz hvl ht
      obtain ⟨bd, hbd⟩ : ∃ bd, (!t.2) = bd := ⟨_, rfl⟩
      rw [hbd] at HNN
      cases bd with
      | true =>
        have HT2 : t.2 = false := by revert hbd; cases t.2 <;> simp
        have h5 : tkE l s' = 5 := by rw [HE.out, if_pos HT2]
        have HF := Lib.hid (show R = ([], 5, t) from by rw [HINV.out, hsub, gets_bad (by rw [h5]; decide), h5, HST.out]; unfold cmb; rw [if_neg (show ¬ ((5 : Int) = 0) by decide)])
        clear hsub HINV hbd
        go_wp2_with (go_at_call 48; go_loud (refine HNN.out.mono ?_; rintro e w2 ⟨ad, c2, rfl, h2, b2, hq⟩; have HQ := Lib.hid hq; have H2 := Lib.hid h2; have B2 := Lib.hid b2; clear h2 b2 hq; obtain ⟨w3, hw3⟩ : ∃ w3, w2.alloc (.cells #[.slice A n c, .int .i64 (t.1 : Int), .bool true] 44) = w3 := ⟨_, rfl⟩; have B3 := Lib.hid (show Below wr.heap.size wr w3 from by (rw [← hw3]; exact to_ B2.out (alloc_ _ _))); have Y3 := Lib.hid (show Blk w3 w2.heap.size 44 #[.slice A n c, .int .i64 (t.1 : Int), .bool true] from by (rw [← hw3]; exact Blk.new w2 _ _)); have HX3 := Lib.hid (HXB.out.below B3.out HXB.out.lt); have H3 := Lib.hid (show ∀ j u, [Value.int .i64 v0, .int .i64 v1, .int .i64 v2, .int .i64 v3, .int .i64 z][j]? = some u → w3.cell? (ad.add j) = some u from fun j u hu => by (rw [← hw3]; exact ((alloc_ w2 _).cell (World.block_lt_of_cell? _ _ (H2.out j u hu))).trans (H2.out j u hu))); obtain ⟨wg, hwg⟩ : ∃ wg, ((w3.setCell ⟨w.heap.size, 0, none⟩ (.slice A n c)).setCell ⟨w.heap.size, 1, none⟩ (.int .i64 (t.1 : Int))).setCell ⟨w.heap.size, 2, none⟩ (.bool true) = wg := ⟨_, rfl⟩; have XG := Lib.hid (show Blk wg w.heap.size 44 #[.slice A n c, .int .i64 (t.1 : Int), .bool true] from by (rw [← hwg]; exact blk_put3 HX3.out _ _ _)); have RG := Lib.hid (show Blk wg (w.heap.size + 1) 44 #[.slice none 0 0, .int .i64 0, .bool false] from by (rw [← hwg]; exact blk_away3 (HRB.out.below B3.out HRB.out.lt) _ (by omega) _ _ _)); have HG := Lib.hid (show ∀ j u, [Value.int .i64 v0, .int .i64 v1, .int .i64 v2, .int .i64 v3, .int .i64 z][j]? = some u → wg.cell? (ad.add j) = some u from fun j u hu => by (rw [← hwg]; exact (World.cell?_of_block (heap_put3 w3 w.heap.size _ (by have := HQ.out; have := HSZ.out; rw [show (ad.add j).block = ad.block from by (unfold Addr.add; split <;> rfl)]; omega) _ _ _)).trans (H3.out j u hu))); have BG := Lib.hid (show Below w.heap.size w wg from by (rw [← hwg]; exact below_put3 (to_ HBE.out B3.out) _ (Nat.le_refl _) _ _ _)); have SG := Lib.hid (show w.heap.size + 2 ≤ wg.heap.size from by (rw [← hwg]; have h9 := B3.out.size; have h8 := HSZ.out; simp; omega)); have OG := Lib.hid (show wg.ownsRow (w.heap.size + 2) 60 5 _ k (flRn xs) from by (rw [← hwg]; exact ownk_keep HOW.out fun gg hb hlt => (heap_put3 w3 w.heap.size gg (by omega) _ _ _).trans (B3.out.block gg hlt))); clear x0 x1 x2; obtain ⟨y0, y1, y2⟩ := blk_ce3 Y3.out; obtain ⟨q0, q1, q2⟩ := blk_fr3 Y3.out; have hw4 : w3.setCell ⟨w2.heap.size, 2, none⟩ (.bool true) = w3 := (by rw [← hw3]; exact World.setCell_alloc_new _ _ _ _); obtain ⟨x0, x1, x2⟩ := blk_ce3 HX3.out; obtain ⟨f0, f1, f2⟩ := blk_fr3 HX3.out; obtain ⟨z0, z1, z2⟩ := blk_ce3 XG.out; obtain ⟨r0, r1, r2⟩ := blk_ce3 RG.out; obtain ⟨g0, g1, g2⟩ := blk_fr3 RG.out; have z4 := (show wg.cell? ⟨ad.block, ad.off + 4, none⟩ = some (.int .i64 z) from HG.out 4 _ rfl)))
        refine bodyPost_ret (v := .tuple #[.agg #[.slice A n c, .int .i64 (t.1 : Int), .bool true], .slice none 0 0, .int .i64 5]) (by simp [results, Try.results23, go_sem, r0, r1, r2]) rfl ?_
        refine ⟨none, 0, ?_, by rw [HF.out]; exact Wd.nil, below_put3 BG.out _ (by omega) _ _ _⟩
        rw [HF.out]; unfold rdC; simp [HT2]
      | false =>
        have HT2 : t.2 = true := by revert hbd; cases t.2 <;> simp
        by_cases hq1 : 1 < z
        · have h3 : tkE l s' = 3 := by rw [HE.out, if_neg (by rw [HT2]; decide), if_pos hq1]
          have HF := Lib.hid (show R = ([], 3, t) from by rw [HINV.out, hsub, gets_bad (by rw [h3]; decide), h3, HST.out]; unfold cmb; rw [if_neg (show ¬ ((3 : Int) = 0) by decide)])
          clear hsub HINV hbd
          go_wp2_with (go_at_call 48; go_loud (refine HNN.out.mono ?_; rintro e w2 ⟨ad, c2, rfl, h2, b2, hq⟩; have HQ := Lib.hid hq; have H2 := Lib.hid h2; have B2 := Lib.hid b2; clear h2 b2 hq; obtain ⟨w3, hw3⟩ : ∃ w3, w2.alloc (.cells #[.slice A n c, .int .i64 (t.1 : Int), .bool false] 44) = w3 := ⟨_, rfl⟩; have B3 := Lib.hid (show Below wr.heap.size wr w3 from by (rw [← hw3]; exact to_ B2.out (alloc_ _ _))); have Y3 := Lib.hid (show Blk w3 w2.heap.size 44 #[.slice A n c, .int .i64 (t.1 : Int), .bool false] from by (rw [← hw3]; exact Blk.new w2 _ _)); have HX3 := Lib.hid (HXB.out.below B3.out HXB.out.lt); have H3 := Lib.hid (show ∀ j u, [Value.int .i64 v0, .int .i64 v1, .int .i64 v2, .int .i64 v3, .int .i64 z][j]? = some u → w3.cell? (ad.add j) = some u from fun j u hu => by (rw [← hw3]; exact ((alloc_ w2 _).cell (World.block_lt_of_cell? _ _ (H2.out j u hu))).trans (H2.out j u hu))); obtain ⟨wg, hwg⟩ : ∃ wg, ((w3.setCell ⟨w.heap.size, 0, none⟩ (.slice A n c)).setCell ⟨w.heap.size, 1, none⟩ (.int .i64 (t.1 : Int))).setCell ⟨w.heap.size, 2, none⟩ (.bool false) = wg := ⟨_, rfl⟩; have XG := Lib.hid (show Blk wg w.heap.size 44 #[.slice A n c, .int .i64 (t.1 : Int), .bool false] from by (rw [← hwg]; exact blk_put3 HX3.out _ _ _)); have RG := Lib.hid (show Blk wg (w.heap.size + 1) 44 #[.slice none 0 0, .int .i64 0, .bool false] from by (rw [← hwg]; exact blk_away3 (HRB.out.below B3.out HRB.out.lt) _ (by omega) _ _ _)); have HG := Lib.hid (show ∀ j u, [Value.int .i64 v0, .int .i64 v1, .int .i64 v2, .int .i64 v3, .int .i64 z][j]? = some u → wg.cell? (ad.add j) = some u from fun j u hu => by (rw [← hwg]; exact (World.cell?_of_block (heap_put3 w3 w.heap.size _ (by have := HQ.out; have := HSZ.out; rw [show (ad.add j).block = ad.block from by (unfold Addr.add; split <;> rfl)]; omega) _ _ _)).trans (H3.out j u hu))); have BG := Lib.hid (show Below w.heap.size w wg from by (rw [← hwg]; exact below_put3 (to_ HBE.out B3.out) _ (Nat.le_refl _) _ _ _)); have SG := Lib.hid (show w.heap.size + 2 ≤ wg.heap.size from by (rw [← hwg]; have h9 := B3.out.size; have h8 := HSZ.out; simp; omega)); have OG := Lib.hid (show wg.ownsRow (w.heap.size + 2) 60 5 _ k (flRn xs) from by (rw [← hwg]; exact ownk_keep HOW.out fun gg hb hlt => (heap_put3 w3 w.heap.size gg (by omega) _ _ _).trans (B3.out.block gg hlt))); clear x0 x1 x2; obtain ⟨y0, y1, y2⟩ := blk_ce3 Y3.out; obtain ⟨q0, q1, q2⟩ := blk_fr3 Y3.out; have hw4 : w3.setCell ⟨w2.heap.size, 2, none⟩ (.bool false) = w3 := (by rw [← hw3]; exact World.setCell_alloc_new _ _ _ _); obtain ⟨x0, x1, x2⟩ := blk_ce3 HX3.out; obtain ⟨f0, f1, f2⟩ := blk_fr3 HX3.out; obtain ⟨z0, z1, z2⟩ := blk_ce3 XG.out; obtain ⟨r0, r1, r2⟩ := blk_ce3 RG.out; obtain ⟨g0, g1, g2⟩ := blk_fr3 RG.out; have z4 := (show wg.cell? ⟨ad.block, ad.off + 4, none⟩ = some (.int .i64 z) from HG.out 4 _ rfl)))
          refine bodyPost_ret (v := .tuple #[.agg #[.slice A n c, .int .i64 (t.1 : Int), .bool false], .slice none 0 0, .int .i64 3]) (by simp [results, Try.results23, go_sem, r0, r1, r2]) rfl ?_
          refine ⟨none, 0, ?_, by rw [HF.out]; exact Wd.nil, below_put3 BG.out _ (by omega) _ _ _⟩
          rw [HF.out]; unfold rdC; simp [HT2]
        · have h0 : tkE l s' = 0 := by rw [HE.out, if_neg (by rw [HT2]; decide), if_neg hq1]
          have HINV2 := Lib.hid (show R = cmb (xs ++ [tkX l s']) (gets l (N - (k + 1)) t) from by rw [HINV.out, hsub, gets_ok h0, cmb_cmb, HST.out])
          clear hsub HINV hbd
          go_wp2_with (go_at_call 48; go_loud (refine HNN.out.mono ?_; rintro e w2 ⟨ad, c2, rfl, h2, b2, hq⟩; have HQ := Lib.hid hq; have H2 := Lib.hid h2; have B2 := Lib.hid b2; clear h2 b2 hq; obtain ⟨w3, hw3⟩ : ∃ w3, w2.alloc (.cells #[.slice A n c, .int .i64 (t.1 : Int), .bool false] 44) = w3 := ⟨_, rfl⟩; have B3 := Lib.hid (show Below wr.heap.size wr w3 from by (rw [← hw3]; exact to_ B2.out (alloc_ _ _))); have Y3 := Lib.hid (show Blk w3 w2.heap.size 44 #[.slice A n c, .int .i64 (t.1 : Int), .bool false] from by (rw [← hw3]; exact Blk.new w2 _ _)); have HX3 := Lib.hid (HXB.out.below B3.out HXB.out.lt); have H3 := Lib.hid (show ∀ j u, [Value.int .i64 v0, .int .i64 v1, .int .i64 v2, .int .i64 v3, .int .i64 z][j]? = some u → w3.cell? (ad.add j) = some u from fun j u hu => by (rw [← hw3]; exact ((alloc_ w2 _).cell (World.block_lt_of_cell? _ _ (H2.out j u hu))).trans (H2.out j u hu))); obtain ⟨wg, hwg⟩ : ∃ wg, ((w3.setCell ⟨w.heap.size, 0, none⟩ (.slice A n c)).setCell ⟨w.heap.size, 1, none⟩ (.int .i64 (t.1 : Int))).setCell ⟨w.heap.size, 2, none⟩ (.bool false) = wg := ⟨_, rfl⟩; have XG := Lib.hid (show Blk wg w.heap.size 44 #[.slice A n c, .int .i64 (t.1 : Int), .bool false] from by (rw [← hwg]; exact blk_put3 HX3.out _ _ _)); have RG := Lib.hid (show Blk wg (w.heap.size + 1) 44 #[.slice none 0 0, .int .i64 0, .bool false] from by (rw [← hwg]; exact blk_away3 (HRB.out.below B3.out HRB.out.lt) _ (by omega) _ _ _)); have HG := Lib.hid (show ∀ j u, [Value.int .i64 v0, .int .i64 v1, .int .i64 v2, .int .i64 v3, .int .i64 z][j]? = some u → wg.cell? (ad.add j) = some u from fun j u hu => by (rw [← hwg]; exact (World.cell?_of_block (heap_put3 w3 w.heap.size _ (by have := HQ.out; have := HSZ.out; rw [show (ad.add j).block = ad.block from by (unfold Addr.add; split <;> rfl)]; omega) _ _ _)).trans (H3.out j u hu))); have BG := Lib.hid (show Below w.heap.size w wg from by (rw [← hwg]; exact below_put3 (to_ HBE.out B3.out) _ (Nat.le_refl _) _ _ _)); have SG := Lib.hid (show w.heap.size + 2 ≤ wg.heap.size from by (rw [← hwg]; have h9 := B3.out.size; have h8 := HSZ.out; simp; omega)); have OG := Lib.hid (show wg.ownsRow (w.heap.size + 2) 60 5 _ k (flRn xs) from by (rw [← hwg]; exact ownk_keep HOW.out fun gg hb hlt => (heap_put3 w3 w.heap.size gg (by omega) _ _ _).trans (B3.out.block gg hlt))); clear x0 x1 x2; obtain ⟨y0, y1, y2⟩ := blk_ce3 Y3.out; obtain ⟨q0, q1, q2⟩ := blk_fr3 Y3.out; have hw4 : w3.setCell ⟨w2.heap.size, 2, none⟩ (.bool false) = w3 := (by rw [← hw3]; exact World.setCell_alloc_new _ _ _ _); obtain ⟨x0, x1, x2⟩ := blk_ce3 HX3.out; obtain ⟨f0, f1, f2⟩ := blk_fr3 HX3.out; obtain ⟨z0, z1, z2⟩ := blk_ce3 XG.out; obtain ⟨r0, r1, r2⟩ := blk_ce3 RG.out; obtain ⟨g0, g1, g2⟩ := blk_fr3 RG.out; have z4 := (show wg.cell? ⟨ad.block, ad.off + 4, none⟩ = some (.int .i64 z) from HG.out 4 _ rfl)))
          have HS := Lib.hid (show ∀ W, Below wg.heap.size wg W → (fun W => W.cell? ad = some (.int .i64 v0) ∧ W.cell? ⟨ad.block, ad.off + 1, none⟩ = some (.int .i64 v1) ∧ W.cell? ⟨ad.block, ad.off + 2, none⟩ = some (.int .i64 v2) ∧ W.cell? ⟨ad.block, ad.off + 3, none⟩ = some (.int .i64 v3) ∧ W.cell? ⟨ad.block, ad.off + 4, none⟩ = some (.int .i64 z)) W from fun W hb => ⟨(hb.cell (World.block_lt_of_cell? _ _ (HG.out 0 _ rfl))).trans (HG.out 0 _ rfl), (hb.cell (World.block_lt_of_cell? _ _ (HG.out 1 _ rfl))).trans (HG.out 1 _ rfl), (hb.cell (World.block_lt_of_cell? _ _ (HG.out 2 _ rfl))).trans (HG.out 2 _ rfl), (hb.cell (World.block_lt_of_cell? _ _ (HG.out 3 _ rfl))).trans (HG.out 3 _ rfl), (hb.cell (World.block_lt_of_cell? _ _ (HG.out 4 _ rfl))).trans (HG.out 4 _ rfl)⟩)
          clear hwg hw4 hw3 q0 q1 q2 y0 y1 y2 x0 x1 x2 f0 f1 f2 z0 z1 z2 r0 r1 r2 g0 g1 g2 z4
          refine wp_region_noPanic ?_
          refine wp_region_held_drew (S := fun W => W.cell? ad = some (.int .i64 v0) ∧ W.cell? ⟨ad.block, ad.off + 1, none⟩ = some (.int .i64 v1) ∧ W.cell? ⟨ad.block, ad.off + 2, none⟩ = some (.int .i64 v2) ∧ W.cell? ⟨ad.block, ad.off + 3, none⟩ = some (.int .i64 v3) ∧ W.cell? ⟨ad.block, ad.off + 4, none⟩ = some (.int .i64 z)) (by kernel_rfl) (HS.out _ (Below.refl _ _).drew) (fun hHeld => ?_)
          refine wpAnyH_take (i := 0) rfl (by kernel_rfl) (by kernel_rfl) (by kernel_rfl) (fun _ _ _ h => h) (Or.inl ⟨by rfl, by intro W hSW; (try dsimp only at hSW); go_simp; try (with_reducible rfl)⟩) hHeld ?_
          try simp only [Act.put, List.getElem_toArray, List.getElem_cons_zero, List.getElem_cons_succ, List.setIfInBounds_toArray, List.set_cons_zero, List.set_cons_succ]
          refine wpAnyH_take (i := 1) rfl (by kernel_rfl) (by kernel_rfl) (by kernel_rfl) (fun _ _ _ h => h) (Or.inl ⟨by rfl, by intro W hSW; (try dsimp only at hSW); go_simp; try (with_reducible rfl)⟩) hHeld ?_
          try simp only [Act.put, List.getElem_toArray, List.getElem_cons_zero, List.getElem_cons_succ, List.setIfInBounds_toArray, List.set_cons_zero, List.set_cons_succ]
          refine wpAnyH_take (i := 2) rfl (by kernel_rfl) (by kernel_rfl) (by kernel_rfl) (fun _ _ _ h => h) (Or.inl ⟨by rfl, by intro W hSW; (try dsimp only at hSW); go_simp; try (with_reducible rfl)⟩) hHeld ?_
          try simp only [Act.put, List.getElem_toArray, List.getElem_cons_zero, List.getElem_cons_succ, List.setIfInBounds_toArray, List.set_cons_zero, List.set_cons_succ]
          refine wpAnyH_take (i := 3) rfl (by kernel_rfl) (by kernel_rfl) (by kernel_rfl) (fun _ _ _ h => h) (Or.inl ⟨by rfl, by intro W hSW; (try dsimp only at hSW); go_simp; try (with_reducible rfl)⟩) hHeld ?_
          try simp only [Act.put, List.getElem_toArray, List.getElem_cons_zero, List.getElem_cons_succ, List.setIfInBounds_toArray, List.set_cons_zero, List.set_cons_succ]
          refine wpAnyH_take (i := 4) rfl (by kernel_rfl) (by kernel_rfl) (by kernel_rfl) (fun _ _ _ h => h) (Or.inl ⟨by rfl, by intro W hSW; (try dsimp only at hSW); go_simp; try (with_reducible rfl)⟩) hHeld ?_
          try simp only [Act.put, List.getElem_toArray, List.getElem_cons_zero, List.getElem_cons_succ, List.setIfInBounds_toArray, List.set_cons_zero, List.set_cons_succ]
          refine wpAnyH_take (i := 5) rfl (by kernel_rfl) (by kernel_rfl) (by kernel_rfl) (fun _ _ _ h => h) (Or.inl ⟨by rfl, by intro W hSW; (try dsimp only at hSW); go_simp; try (with_reducible rfl)⟩) hHeld ?_
          try simp only [Act.put, List.getElem_toArray, List.getElem_cons_zero, List.getElem_cons_succ, List.setIfInBounds_toArray, List.set_cons_zero, List.set_cons_succ]
          refine wpAnyH_take (i := 6) rfl (by kernel_rfl) (by kernel_rfl) (by kernel_rfl) (fun _ _ _ h => h) (Or.inl ⟨by rfl, by intro W hSW; (try dsimp only at hSW); go_simp; try (with_reducible rfl)⟩) hHeld ?_
          try simp only [Act.put, List.getElem_toArray, List.getElem_cons_zero, List.getElem_cons_succ, List.setIfInBounds_toArray, List.set_cons_zero, List.set_cons_succ]
          refine wpAnyH_take (i := 7) rfl (by kernel_rfl) (by kernel_rfl) (by kernel_rfl) (fun _ _ _ h => h) (Or.inl ⟨by rfl, by intro W hSW; (try dsimp only at hSW); go_simp; try (with_reducible rfl)⟩) hHeld ?_
          try simp only [Act.put, List.getElem_toArray, List.getElem_cons_zero, List.getElem_cons_succ, List.setIfInBounds_toArray, List.set_cons_zero, List.set_cons_succ]
          refine wpAnyH_take (i := 8) rfl (by kernel_rfl) (by kernel_rfl) (by kernel_rfl) (fun _ _ _ h => h) (Or.inl ⟨by rfl, by intro W hSW; (try dsimp only at hSW); go_simp; try (with_reducible rfl)⟩) hHeld ?_
          try simp only [Act.put, List.getElem_toArray, List.getElem_cons_zero, List.getElem_cons_succ, List.setIfInBounds_toArray, List.set_cons_zero, List.set_cons_succ]
          refine wpAnyH_take (i := 9) rfl (by kernel_rfl) (by kernel_rfl) (by kernel_rfl) (fun _ _ _ h => h) (Or.inl ⟨by rfl, by intro W hSW; (try dsimp only at hSW); go_simp; try (with_reducible rfl)⟩) hHeld ?_
          try simp only [Act.put, List.getElem_toArray, List.getElem_cons_zero, List.getElem_cons_succ, List.setIfInBounds_toArray, List.set_cons_zero, List.set_cons_succ]
          refine wpAnyH_take (i := 10) rfl (by kernel_rfl) (by kernel_rfl) (by kernel_rfl) (fun _ _ _ h => h) (Or.inl ⟨by rfl, by intro W hSW; (try dsimp only at hSW); go_simp; try (with_reducible rfl)⟩) hHeld ?_
          try simp only [Act.put, List.getElem_toArray, List.getElem_cons_zero, List.getElem_cons_succ, List.setIfInBounds_toArray, List.set_cons_zero, List.set_cons_succ]
          refine wpAnyH_take (i := 11) rfl (by kernel_rfl) (by kernel_rfl) (by kernel_rfl) (fun _ _ _ h => h) (Or.inl ⟨by rfl, by intro W hSW; (try dsimp only at hSW); go_simp; try (with_reducible rfl)⟩) hHeld ?_
          try simp only [Act.put, List.getElem_toArray, List.getElem_cons_zero, List.getElem_cons_succ, List.setIfInBounds_toArray, List.set_cons_zero, List.set_cons_succ]
          refine wpAnyH_take (i := 12) rfl (by kernel_rfl) (by kernel_rfl) (by kernel_rfl) (fun _ _ _ h => h) (Or.inl ⟨by rfl, by intro W hSW; (try dsimp only at hSW); go_simp; try (with_reducible rfl)⟩) hHeld ?_
          try simp only [Act.put, List.getElem_toArray, List.getElem_cons_zero, List.getElem_cons_succ, List.setIfInBounds_toArray, List.set_cons_zero, List.set_cons_succ]
          refine wpAnyH_take (i := 13) rfl (by kernel_rfl) (by kernel_rfl) (by kernel_rfl) (fun _ _ _ h => h) (Or.inl ⟨by rfl, by intro W hSW; (try dsimp only at hSW); go_simp; try (with_reducible rfl)⟩) hHeld ?_
          try simp only [Act.put, List.getElem_toArray, List.getElem_cons_zero, List.getElem_cons_succ, List.setIfInBounds_toArray, List.set_cons_zero, List.set_cons_succ]
          refine wpAnyH_take (i := 14) rfl (by kernel_rfl) (by kernel_rfl) (by kernel_rfl) (fun _ _ _ h => h) (Or.inl ⟨by rfl, by intro W hSW; (try dsimp only at hSW); go_simp; try (with_reducible rfl)⟩) hHeld ?_
          try simp only [Act.put, List.getElem_toArray, List.getElem_cons_zero, List.getElem_cons_succ, List.setIfInBounds_toArray, List.set_cons_zero, List.set_cons_succ]
          refine wpAnyH_take (i := 15) rfl (by kernel_rfl) (by kernel_rfl) (by kernel_rfl) (fun _ _ _ h => h) (Or.inl ⟨by rfl, by intro W hSW; (try dsimp only at hSW); go_simp; try (with_reducible rfl)⟩) hHeld ?_
          try simp only [Act.put, List.getElem_toArray, List.getElem_cons_zero, List.getElem_cons_succ, List.setIfInBounds_toArray, List.set_cons_zero, List.set_cons_succ]
          refine wpAnyH_take (i := 16) rfl (by kernel_rfl) (by kernel_rfl) (by kernel_rfl) (fun _ _ _ h => h) (Or.inl ⟨by rfl, by intro W hSW; (try dsimp only at hSW); go_simp; try (with_reducible rfl)⟩) hHeld ?_
          try simp only [Act.put, List.getElem_toArray, List.getElem_cons_zero, List.getElem_cons_succ, List.setIfInBounds_toArray, List.set_cons_zero, List.set_cons_succ]
          refine wpAnyH_take (i := 17) rfl (by kernel_rfl) (by kernel_rfl) (by kernel_rfl) (fun _ _ _ h => h) (Or.inl ⟨by rfl, by intro W hSW; (try dsimp only at hSW); go_simp; try (with_reducible rfl)⟩) hHeld ?_
          try simp only [Act.put, List.getElem_toArray, List.getElem_cons_zero, List.getElem_cons_succ, List.setIfInBounds_toArray, List.set_cons_zero, List.set_cons_succ]
          refine wpAnyH_take (i := 18) rfl (by kernel_rfl) (by kernel_rfl) (by kernel_rfl) (fun _ _ _ h => h) (Or.inl ⟨by rfl, by intro W hSW; (try dsimp only at hSW); go_simp; try (with_reducible rfl)⟩) hHeld ?_
          try simp only [Act.put, List.getElem_toArray, List.getElem_cons_zero, List.getElem_cons_succ, List.setIfInBounds_toArray, List.set_cons_zero, List.set_cons_succ]
          refine wpAnyH_ready (rs := [19]) (by kernel_rfl) (by simp) ?_
          refine AllReadyH.cons rfl (fun K hK => ?_) AllReadyH.nil
          go_simp
          refine hK.out _ _ (HS.out _ (alloc_ _ _).drew) ?_
          clear hK K hHeld
          intro hHeld
          try simp only [Act.put, List.getElem_toArray, List.getElem_cons_zero, List.getElem_cons_succ, List.setIfInBounds_toArray, List.set_cons_zero, List.set_cons_succ]
          refine wpAnyH_ready (rs := [20]) (by kernel_rfl) (by simp) ?_
          refine AllReadyH.cons rfl (fun K hK => ?_) AllReadyH.nil
          clear hHeld
          obtain ⟨WA, hWA⟩ : ∃ WA, (wg.alloc (.cells #[.int .i64 v0, .int .i64 v1, .int .i64 v2, .bool (z == 1), .int .i64 v3] 60)).drew = WA := ⟨_, rfl⟩
          rw [hWA]
          have HWA := Lib.hid (show Below wg.heap.size wg WA from by rw [← hWA]; exact (alloc_ _ _).drew)
          have BWA := Lib.hid (show Blk WA wg.heap.size 60 #[.int .i64 v0, .int .i64 v1, .int .i64 v2, .bool (z == 1), .int .i64 v3] from by rw [← hWA]; exact Blk.new wg _ _)
          have ZWA := Lib.hid (show wg.heap.size < WA.heap.size from BWA.out.lt)
          have OA := Lib.hid (show WA.ownsRow (w.heap.size + 2) 60 5 _ k (flRn xs) from ownk_keep OG.out fun gg hb hlt => HWA.out.block gg hlt)
          have HSA := Lib.hid (HS.out WA HWA.out)
          have HAD := Lib.hid (show ad.block < wg.heap.size from World.block_lt_of_cell? _ _ (show wg.cell? ad = some (.int .i64 v0) from HG.out 0 _ rfl))
          have HNE := Lib.hid (show ∀ r, Value.ownBlock u6 = some r → r ≠ ad.block from fun r e => by have h9 := (HOW.out.lt r e).2; have h8 := HQ.out; omega)
          clear hWA
          refine step_append_own rfl _ _ 23 rfl (w.heap.size + 2) 60 i0 (.agg #[.int .i64 0, .int .i64 0, .int .i64 0, .bool false, .int .i64 0]) 5 40 Try.underlying23 hi hz0 hz1 hz2 rfl (by decide) _ k (flRn xs) rfl OA.out ⟨wg.heap.size, 0, none⟩ 1 (encRn (v0, v1, v2, z == 1, v3)) rfl rfl (fun j u hu => by rw [add_plain, Nat.zero_add]; exact (BWA.out.cell j).trans (by simpa [encRn] using hu)) (by simp [encRn, Value.oneCell']) (by unfold maxLen; omega) (by omega) (by have h9 := SG.out; have h8 := ZWA.out; omega) ?_
          intro v' w4 h2 h3
          rw [flRn_snoc] at h2
          have H2 := Lib.hid h2
          have H3 := Lib.hid h3
          clear h2 h3
          have e4 : ∀ p : Addr, p.block = ad.block → w4.cell? p = WA.cell? p := fun p hp => World.cell?_of_block (H3.out.block p.block (by rw [hp]; exact Nat.lt_trans HAD.out ZWA.out) (by rw [hp]; intro e; exact HNE.out _ e.symm rfl))
          obtain ⟨a0, a1, a2, a3, a4⟩ := HSA.out
          refine hK.out _ _ ⟨(e4 _ rfl).trans a0, (e4 ⟨ad.block, ad.off + 1, none⟩ rfl).trans a1, (e4 ⟨ad.block, ad.off + 2, none⟩ rfl).trans a2, (e4 ⟨ad.block, ad.off + 3, none⟩ rfl).trans a3, (e4 ⟨ad.block, ad.off + 4, none⟩ rfl).trans a4⟩ ?_
          clear hK K e4 a0 a1 a2 a3 a4
          intro hHeld
          try simp only [Act.put, List.getElem_toArray, List.getElem_cons_zero, List.getElem_cons_succ, List.setIfInBounds_toArray, List.set_cons_zero, List.set_cons_succ]
          refine wpAnyH_take (i := 21) rfl (by kernel_rfl) (by kernel_rfl) (by kernel_rfl) (fun _ _ _ h => h) (Or.inl ⟨by rfl, by intro W hSW; (try dsimp only at hSW); go_simp; try (with_reducible rfl)⟩) hHeld ?_
          try simp only [Act.put, List.getElem_toArray, List.getElem_cons_zero, List.getElem_cons_succ, List.setIfInBounds_toArray, List.set_cons_zero, List.set_cons_succ]
          refine wpAnyH_done (by kernel_rfl) ?_ _
          refine NoPanic.normal ?_
          clear hHeld
          go_wp2_with fail
          go_roundw
          case rel =>
            have hb4 : Below w.heap.size w w4 := (to_ BG.out HWA.out).grown H3.out (to_ BG.out HWA.out).size fun r e => by have := (OG.out.lt r e).1; omega
            have hne : ∀ g, g < w.heap.size + 2 → w4.heap[g]? = wg.heap[g]? := fun g hg => (H3.out.block g (by have h9 := SG.out; have h8 := ZWA.out; omega) (fun e => by have := (OG.out.lt g e.symm).1; omega)).trans (HWA.out.block g (by have := SG.out; omega))
            refine ⟨k + 1, t, xs ++ [(v0, v1, v2, z == 1, v3)], by omega, by go_num, Lib.hid (by rw [List.length_append, HXL.out]; rfl), HTL, ?_, (hne _ (by omega)).trans RG.out, H2.out, hb4, Lib.hid (by have h9 := SG.out; have h8 := ZWA.out; have h7 := H3.out.size; omega), Lib.hid (by rw [HINV2.out, HX.out])⟩
            unfold rdC; rw [HT2]; exact (hne _ (by omega)).trans XG.out
          case measure => simp [intOf]; omega
    · obtain rfl : k = N := by omega
      have hz := HINV.out
      rw [Nat.sub_self] at hz
      obtain ⟨x0, x1, x2⟩ := blk_ce3 HXB.out
      obtain ⟨r0, r1, r2⟩ := blk_ce3 HRB.out
      obtain ⟨g0, g1, g2⟩ := blk_fr3 HRB.out
      obtain ⟨bd, hbd⟩ : ∃ bd, (!s'.2) = bd := ⟨_, rfl⟩
      rw [hbd] at x2
      cases bd with
      | true =>
        have HT2 : s'.2 = false := by revert hbd; cases s'.2 <;> simp
        have HF := Lib.hid (show R = ([], 5, s') from by rw [hz]; unfold gets cmb; rw [HT2]; rfl)
        clear hz hbd hxb hrb hown hbel
        go_wp2_with fail
        refine bodyPost_ret (v := .tuple #[.agg #[.slice A n c, .int .i64 (s'.1 : Int), .bool true], .slice none 0 0, .int .i64 5]) (by simp [results, Try.results23, go_sem, r0, r1, r2]) rfl ?_
        refine ⟨none, 0, ?_, by rw [HF.out]; exact Wd.nil, below_put3 HBE.out _ (by omega) _ _ _⟩
        rw [HF.out]; unfold rdC; simp [HT2]
      | false =>
        have HT2 : s'.2 = true := by revert hbd; cases s'.2 <;> simp
        have HF := Lib.hid (show R = (xs, 0, s') from by rw [hz]; unfold gets cmb; rw [HT2]; simp)
        obtain ⟨A2, c2, rfl⟩ := own_formW hown
        clear hz hbd hxb hrb hown hbel
        go_wp2_with fail
        refine bodyPost_ret (v := .tuple #[.agg #[.slice A n c, .int .i64 (s'.1 : Int), .bool false], .slice A2 k c2, .int .i64 0]) (by simp [results, Try.results23, go_sem, r0, r1, r2]) rfl ?_
        have hown2 : ((((wr.setCell ⟨w.heap.size + 1, 0, none⟩ (.slice A n c)).setCell ⟨w.heap.size + 1, 1, none⟩ (.int .i64 (s'.1 : Int))).setCell ⟨w.heap.size + 1, 2, none⟩ (.bool false))).ownsRow (w.heap.size + 2) 60 5 (.slice A2 k c2) k (flRn xs) := ownk_keep HOW.out fun gg hb hlt => heap_put3 wr (w.heap.size + 1) gg (by omega) _ _ _
        obtain ⟨A3, c3, e3, hl⟩ := RnL.own HXL.out hown2
        injection e3 with e5 e6 e7
        subst e5; subst e7
        refine ⟨A2, c2, ?_, ?_, below_put3 HBE.out _ (by omega) _ _ _⟩
        · rw [HF.out]; unfold rdC; simp [HT2, HXL.out]
        · rw [HF.out]; simp only [HXL.out]; exact hl
end Go.Proofs.Ytckpbdphilifoaa.By
