/-
  WALKS of layer 15: the document's own references of bytes.
-/
import Derived.Test.YthkbdclnnpcoiaaDoorEf
namespace Go.Proofs.YthkbdclnnpcoiaaDoor.By
open Go.RowKit
open Mem Gm Rf
set_option linter.unusedSimpArgs false
set_option linter.unusedVariables false

theorem pg_bad {l : List UInt8} {s : Std} (h : s.2 = false) (k : Int) : (pgS l s k).2 = false ∧ rvS l s k = 0 := by
  unfold pgS rvS readV fitsB
  rw [h]; exact ⟨rfl, rfl⟩
theorem rd_bad {l : List UInt8} {s : Std} {k : Int} (h : (pgS l s k).2 = false) : rvS l s k = 0 := by
  unfold pgS at h
  unfold rvS readV
  rw [if_neg (by rw [show fitsB l s.1 s.2 k = false from h]; decide)]
theorem stN_bad {l : List UInt8} {s : Std} (h : s.2 = false) : ∀ k, (stN l s k).2 = false
  | 0 => h
  | k + 1 => (pg_bad (stN_bad h k) 1).1
theorem tk_bad {l : List UInt8} {s : Std} (h : (t3 l s).2 = false) : tkW l s = 0 := rd_bad (l := l) (s := stN l s 2) (k := 1) h
theorem rfs_bad {l : List UInt8} : ∀ (n : Nat) (s : Std), s.2 = false → ∃ ys, (rfs l n s).1 = some ys ∧ (rfs l n s).2.2 = false
  | 0, s, h => ⟨[], rfl, h⟩
  | n + 1, s, h => by
    have h3 : (t3 l s).2 = false := stN_bad h 3
    obtain ⟨ys, h1, h2⟩ := rfs_bad n (t3 l s) h3
    refine ⟨tkX l s :: ys, ?_, ?_⟩
    · rw [rfs, if_neg (by rw [tk_bad h3]; decide), h1]; rfl
    · rw [rfs, if_neg (by rw [tk_bad h3]; decide)]; exact h2
/-- What is wrong of references that were read, and what they are. -/
def rrE (o : Option (List Rl) × Std) : Int := match o.1 with | none => 3 | some _ => if o.2.2 = false then 5 else 0
def rrL (o : Option (List Rl) × Std) : List Rl := if rrE o = 0 then o.1.getD [] else []
def RrAns (o : Option (List Rl) × Std) (w : World) (A : Option Addr) (n c : Nat) (e : Ending) (w' : World) : Prop :=
  ∃ (st : Std) (A2 : Option Addr) (c2 : Nat), e = .returned (.tuple #[.agg (rdC A n c st), .slice A2 (rrL o).length c2, .int .i64 (rrE o)]) ∧ RlL w' A2 (rrL o).length c2 (rrL o) ∧ (rrE o = 0 → st = o.2) ∧ (∀ ad, A2 = some ad → w.heap.size ≤ ad.block) ∧ Below w.heap.size w w'
theorem vl3 (l : List UInt8) (s : Std) : vlN l s 3 = [rvS l s 1, rvS l (stN l s 1) 1, tkW l s] := rfl
theorem rdC_eq (A : Option Addr) (n c : Nat) (s : Std) : rdC A n c s = #[.slice A n c, .int .i64 (s.1 : Int), .bool (!s.2)] := rfl

set_option maxRecDepth 100000 in
set_option maxHeartbeats 8000000 in
theorem rgetR_any (w : World) (A : Option Addr) (n c : Nat) (l : List UInt8) (s : Std) (hn : l.length = n) (hl : n ≤ 1000000) (hs : s.1 ≤ n) (hv : SlV w w.heap.size (.slice A n c) (u8s l)) :
    Calls Tryd.prog 44 #[.agg (rdC A n c s)] w (RrAns (rfs l (rvS l s 1).toNat (pgS l s 1)) w A n c) := by
  obtain ⟨i0, hi, hz0, hz1, hz2⟩ := info_parts infoRl
  obtain ⟨N, hN⟩ : ∃ N, (rvS l s 1).toNat = N := ⟨_, rfl⟩
  have h2 := num_one l s
  have hNI : rvS l s 1 = (N : Int) := by omega
  have hNB : N ≤ 255 := by omega
  obtain ⟨s0, hs0⟩ : ∃ s0, pgS l s 1 = s0 := ⟨_, rfl⟩
  have HL0 := Lib.hid (show s0.1 ≤ n by rw [← hs0, ← hn]; exact pgS_le (by omega) 1)
  have HNUM := Lib.hid (show ∀ W, Below w.heap.size w W → Calls Tryd.prog 43 #[.agg #[.slice A n c, .int .i64 (s.1 : Int), .bool (!s.2)], .int .i64 1, .bool false] W fun e w' => e = .returned (.tuple #[.agg #[.slice A n c, .int .i64 (s0.1 : Int), .bool (!s0.2)], .int .i64 (N : Int)]) ∧ Below W.heap.size W w' from fun W hb => by
    have := rnum_any W w.heap.size A c l s.1 s.2 false 1 (by omega) (by omega) (by rw [hn]; exact hv.below hb)
    rw [hn] at this
    refine this.mono fun e w' hh => ?_
    obtain ⟨h1, h2⟩ := hh
    refine ⟨?_, h2⟩
    rw [h1, ← hs0, ← hNI]; rfl)
  have HNS := Lib.hid (fun W (hb : Below w.heap.size w W) st (hst : st.1 ≤ n) => nums_any 3 (by decide) (W.alloc (.cells #[.int .i64 1, .int .i64 1, .int .i64 1] 3)) A n c W.heap.size l st hn hl hst ((hv.below (to_ hb (alloc_ _ _))).more (to_ hb (alloc_ _ _)).size) (by simp) (fun k hk => by
    rw [(Blk.new W _ _).cell]
    match k, hk with
    | 0, _ => rfl
    | 1, _ => rfl
    | 2, _ => rfl))
  rw [hN, hs0]
  obtain ⟨o, ho⟩ : ∃ o, rfs l N s0 = o := ⟨_, rfl⟩
  rw [ho]
  have HO := Lib.hid ho
  have HNL := Lib.hid hn
  obtain ⟨W0, hW0⟩ : ∃ W0, (w.alloc (.cells #[.slice A n c, .int .i64 (s.1 : Int), .bool (!s.2)] 43)).alloc (.cells #[.slice none 0 0, .int .i64 0, .bool false] 43) = W0 := ⟨_, rfl⟩
  have HS0 := Lib.hid (show Blk W0 w.heap.size 43 #[.slice A n c, .int .i64 (s.1 : Int), .bool (!s.2)] ∧ Blk W0 (w.heap.size + 1) 43 #[.slice none 0 0, .int .i64 0, .bool false] ∧ Below w.heap.size w W0 from by
    rw [← hW0]
    refine ⟨(Blk.new w _ _).alloc _, ?_, to_ (alloc_ _ _) (alloc_ _ _)⟩
    have := Blk.new (w.alloc (.cells #[.slice A n c, .int .i64 (s.1 : Int), .bool (!s.2)] 43)) 43 #[.slice none 0 0, .int .i64 0, .bool false]
    rwa [World.size_alloc] at this)
  clear hv hN h2 hNI hs0 hs ho
  obtain ⟨x0, x1, x2⟩ := blk_ce3 HS0.out.1
  unfold rdC
  go_enter Tryd.func44, Tryd.ntmps44
  go_wp2_with fail
  clear hW0 x0 x1 x2
  refine (HNUM.out W0 HS0.out.2.2).mono ?_
  rintro e w1 ⟨rfl, b1⟩
  have HR1 := Lib.hid (HS0.out.1.below b1 HS0.out.1.lt)
  have HT1 := Lib.hid (HS0.out.2.1.below b1 HS0.out.2.1.lt)
  have HB1 := Lib.hid (to_ HS0.out.2.2 b1)
  obtain ⟨x0, x1, x2⟩ := blk_ce3 HR1.out
  obtain ⟨f0, f1, f2⟩ := blk_fr3 HR1.out
  clear b1
  obtain ⟨wg, hwg⟩ : ∃ wg, ((w1.setCell ⟨w.heap.size, 0, none⟩ (.slice A n c)).setCell ⟨w.heap.size, 1, none⟩ (.int .i64 (s0.1 : Int))).setCell ⟨w.heap.size, 2, none⟩ (.bool (!s0.2)) = wg := ⟨_, rfl⟩
  have HRG := Lib.hid (show Blk wg w.heap.size 43 (rdC A n c s0) from by rw [← hwg]; exact blk_put3 HR1.out _ _ _)
  have HTG := Lib.hid (show Blk wg (w.heap.size + 1) 43 #[.slice none 0 0, .int .i64 0, .bool false] from by rw [← hwg]; exact blk_away3 HT1.out _ (by omega) _ _ _)
  have HBG := Lib.hid (show Below w.heap.size w wg from by rw [← hwg]; exact below_put3 HB1.out _ (Nat.le_refl _) _ _ _)
  go_wp2_with fail
  clear hwg x0 x1 x2 f0 f1 f2
  go_loopw [6, 7] (fun v i wr => ∃ (q : Nat) (xs : List Rl) (st : Std), q ≤ N ∧ i = .int .i64 (q : Int) ∧ (Blk wr w.heap.size 43 (rdC A n c st) ∧ Blk wr (w.heap.size + 1) 43 #[.slice none 0 0, .int .i64 0, .bool false]) ∧ wr.ownsRow (w.heap.size + 2) 51 3 v q (flRl xs) ∧ Below w.heap.size w wr ∧ Hid (w.heap.size + 2 ≤ wr.heap.size) ∧ Hid (xs.length = q) ∧ Hid (st.1 ≤ n) ∧ Hid (o.1 = (rfs l (N - q) st).1.map (xs ++ ·) ∧ o.2 = (rfs l (N - q) st).2)) (fun _ i _ => N - (intOf i).toNat)
  case atStart => exact ⟨0, [], s0, Nat.zero_le _, rfl, ⟨HRG.out, HTG.out⟩, World.ownsRow_nil _ _ _ _, HBG.out, Lib.hid (by have := HTG.out.lt; omega), Lib.hid rfl, HL0, Lib.hid ⟨by rw [← HO.out]; simp, by rw [← HO.out]; rfl⟩⟩
  case round =>
    obtain ⟨q, xs, st, hq, rfl, ⟨hrb, htb⟩, hown, hbel, HSZ, HXL, HST, HINV⟩ := hrel
    have HR := Lib.hid hrb
    have HT := Lib.hid htb
    have HOW := Lib.hid hown
    have HBE := Lib.hid hbel
    have HR2 := Lib.hid (show Blk wr w.heap.size 43 #[.slice A n c, .int .i64 (st.1 : Int), .bool (!st.2)] from hrb)
    clear hrb htb hown hbel
    by_cases hlt : q < N
    · have hqI : (q : Int) < (N : Int) := by omega
      have hsub : N - q = (N - (q + 1)) + 1 := by omega
      have HN3 := Lib.hid (HNS.out wr HBE.out st HST.out)
      obtain ⟨x0, x1, x2⟩ := blk_ce3 HR2.out
      obtain ⟨t, ht⟩ : ∃ t, stN l st 3 = t := ⟨_, rfl⟩
      have HTT := Lib.hid ht
      have HTN := Lib.hid (show t.1 ≤ n by rw [← ht, ← HNL.out]; exact stN_le (by rw [HNL.out]; exact HST.out) 3)
      unfold NmAns rdC at HN3
      rw [vl3, ht] at HN3
      have HINV1 := Lib.hid (show o.1 = (if 1 < tkW l st then none else (rfs l (N - (q + 1)) t).1.map ((xs ++ [tkX l st]) ++ ·)) ∧ o.2 = (if 1 < tkW l st then t else (rfs l (N - (q + 1)) t).2) from by
        rw [HINV.out.1, HINV.out.2, hsub, rfs, show t3 l st = t from ht]
        by_cases h1 : 1 < tkW l st
        · rw [if_pos h1, if_pos h1, if_pos h1]; exact ⟨rfl, rfl⟩
        · rw [if_neg h1, if_neg h1, if_neg h1]
          refine ⟨?_, rfl⟩
          rw [Option.map_map]
          congr 1
          funext y
          simp)
      have HTB := Lib.hid (show t.2 = false → tkW l st = 0 from fun h => tk_bad (show (t3 l st).2 = false by rw [show t3 l st = t from ht]; exact h))
      unfold tkX at HINV1
      obtain ⟨z, hz⟩ : ∃ z, tkW l st = z := ⟨_, rfl⟩
      rw [hz] at HINV1 HTB HN3
      generalize rvS l st 1 = v0 at HINV1 HN3
      generalize rvS l (stN l st 1) 1 = v1 at HINV1 HN3
      clear ht hz hsub HINV
      obtain ⟨nb, hnb⟩ : ∃ b, (!t.2) = b := ⟨_, rfl⟩
      rw [hnb] at HN3
      have HRC := Lib.hid (show rdC A n c t = #[.slice A n c, .int .i64 (t.1 : Int), .bool nb] from by rw [rdC_eq, hnb])
      have HNB := Lib.hid hnb
      clear hnb
      go_wp2_with fail
      clear x0 x1 x2
      refine HN3.out.mono ?_
      rintro e w2 ⟨A2, c2, rfl, h2, b2, ha2⟩
      have hb2 : Below wr.heap.size wr w2 := to_ (alloc_ _ _) b2
      have HB2 := Lib.hid hb2
      have HR3 := Lib.hid (HR2.out.below hb2 HR2.out.lt)
      have HT3 := Lib.hid (HT.out.below hb2 HT.out.lt)
      have HSL := Lib.hid h2
      have HA2 := Lib.hid (show ∀ ad, A2 = some ad → wr.heap.size ≤ ad.block from fun ad e => Nat.le_trans (by simp) (ha2 ad e))
      obtain ⟨x0, x1, x2⟩ := blk_ce3 HR3.out
      obtain ⟨f0, f1, f2⟩ := blk_fr3 HR3.out
      have hlt2 : w.heap.size < w2.heap.size := HR3.out.lt
      clear h2 b2 hb2 ha2
      obtain ⟨wg, hwg⟩ : ∃ wg, ((w2.setCell ⟨w.heap.size, 0, none⟩ (.slice A n c)).setCell ⟨w.heap.size, 1, none⟩ (.int .i64 (t.1 : Int))).setCell ⟨w.heap.size, 2, none⟩ (.bool nb) = wg := ⟨_, rfl⟩
      obtain ⟨wf, hwf⟩ : ∃ wf, wg.alloc (.cells #[.slice A n c, .int .i64 (t.1 : Int), .bool nb] 43) = wf := ⟨_, rfl⟩
      have hsg : wg.heap.size = w2.heap.size := by rw [← hwg]; simp [World.setCell]
      have HRG2 := Lib.hid (show Blk wf w.heap.size 43 (rdC A n c t) from by rw [HRC.out, ← hwf, ← hwg]; exact (blk_put3 HR3.out _ _ _).alloc _)
      have HTG2 := Lib.hid (show Blk wf (w.heap.size + 1) 43 #[.slice none 0 0, .int .i64 0, .bool false] from by rw [← hwf, ← hwg]; exact (blk_away3 HT3.out _ (by omega) _ _ _).alloc _)
      have hkeep : ∀ gg, gg ≠ w.heap.size → gg < w2.heap.size → wf.heap[gg]? = w2.heap[gg]? := fun gg hne hlt => by
        rw [← hwf]
        refine (Below.heap_alloc _ _ _ (by omega)).trans ?_
        rw [← hwg]; exact heap_put3 w2 w.heap.size gg hne _ _ _
      have HKP := Lib.hid hkeep
      have HBG2 := Lib.hid (show Below w.heap.size w wf from by rw [← hwf, ← hwg]; exact to_ (below_put3 (to_ HBE.out HB2.out) _ (Nat.le_refl _) _ _ _) (alloc_ _ _))
      have HNE := Lib.hid (show ∀ r, Value.ownBlock u6 = some r → ∀ ad : Addr, A2 = some ad → r ≠ ad.block from fun r e ad ea => by have := (HOW.out.lt r e).2; have := HA2.out ad ea; omega)
      have HOG2 := Lib.hid (show wf.ownsRow (w.heap.size + 2) 51 3 _ q (flRl xs) from ownk_keep HOW.out fun gg hb hlt => (HKP.out gg (by omega) (by have := HB2.out.size; omega)).trans (HB2.out.block gg hlt))
      have HSG2 := Lib.hid (show w.heap.size + 2 ≤ wf.heap.size from by have := HTG2.out.lt; omega)
      obtain ⟨ad, hA2, hc⟩ : ∃ ad, A2 = some ad ∧ ∀ j, j < 3 → w2.cell? (ad.add j) = some (.int .i64 (el [v0, v1, z] j)) := by
        rcases ints_row (A := A2) (c := c2) (l := [v0, v1, z]) HSL.out with ⟨e, _⟩ | ⟨ad, e, _, hc⟩
        · cases e
        · exact ⟨ad, e, hc⟩
      have hadB : w.heap.size < ad.block := by have := HA2.out ad hA2; have := HSZ.out; omega
      have hcf : ∀ j, j < 3 → wf.cell? (ad.add j) = some (.int .i64 (el [v0, v1, z] j)) := fun j hj => by
        rw [World.cell?_of_block (HKP.out (ad.add j).block (by rw [add_block]; omega) (by have := World.block_lt_of_cell? w2 _ (hc j hj); exact this))]
        exact hc j hj
      have k0 : wf.cell? ad = some (.int .i64 v0) := by have := hcf 0 (by decide); rwa [show ad.add 0 = ad from by unfold Addr.add; simp] at this
      have k1 : wf.cell? ⟨ad.block, ad.off + 1, none⟩ = some (.int .i64 v1) := by have := hcf 1 (by decide); rwa [add_field _ 1 (by decide)] at this
      have k2 : wf.cell? ⟨ad.block, ad.off + 2, none⟩ = some (.int .i64 z) := by have := hcf 2 (by decide); rwa [add_field _ 2 (by decide)] at this
      have k1' : wf.cell? (ad.add 1) = some (.int .i64 v1) := hcf 1 (by decide)
      have k2' : wf.cell? (ad.add 2) = some (.int .i64 z) := hcf 2 (by decide)
      have k0' : wf.cell? (ad.add 0) = some (.int .i64 v0) := hcf 0 (by decide)
      subst hA2
      clear hkeep hc hcf
      have HRF := Lib.hid (show Blk wf w.heap.size 43 #[.slice A n c, .int .i64 (t.1 : Int), .bool nb] from by rw [← HRC.out]; exact HRG2.out)
      obtain ⟨y0, y1, y2⟩ := blk_ce3 HRF.out
      obtain ⟨r0, r1, r2⟩ := blk_ce3 HTG2.out
      obtain ⟨q0, q1, q2⟩ := blk_fr3 HTG2.out
      have HPT := Lib.hid (show ∀ b, Blk (((wf.setCell ⟨w.heap.size + 1, 0, none⟩ (.slice A n c)).setCell ⟨w.heap.size + 1, 1, none⟩ (.int .i64 (t.1 : Int))).setCell ⟨w.heap.size + 1, 2, none⟩ (.bool b)) (w.heap.size + 1) 43 #[.slice A n c, .int .i64 (t.1 : Int), .bool b] from fun b => blk_put3 HTG2.out _ _ _)
      have HPB := Lib.hid (show ∀ b, Below w.heap.size w (((wf.setCell ⟨w.heap.size + 1, 0, none⟩ (.slice A n c)).setCell ⟨w.heap.size + 1, 1, none⟩ (.int .i64 (t.1 : Int))).setCell ⟨w.heap.size + 1, 2, none⟩ (.bool b)) from fun b => below_put3 HBG2.out _ (by omega) _ _ _)
      cases nb with
      | true =>
        have HBT := Lib.hid (show t.2 = false from by have := HNB.out; simpa using this)
        have hz0 : z = 0 := HTB.out HBT.out
        have HE := Lib.hid (show rrE o = 5 from by
          unfold rrE
          rw [HINV1.out.1, HINV1.out.2, hz0, if_neg (show ¬ (1 : Int) < 0 by decide), if_neg (show ¬ (1 : Int) < 0 by decide)]
          obtain ⟨ys, h1, h2⟩ := rfs_bad (l := l) (N - (q + 1)) t HBT.out
          rw [h1]
          show (if (rfs l (N - (q + 1)) t).2.2 = false then (5 : Int) else 0) = 5
          rw [if_pos h2])
        have HEL := Lib.hid (show rrL o = [] from by unfold rrL; rw [HE.out]; rfl)
        clear hz0 k0 k1 k2 k0' k1' k2'
        go_wp2_with fail
        obtain ⟨z0, z1, z2⟩ := blk_ce3 (HPT.out true)
        refine bodyPost_ret (v := .tuple #[.agg #[.slice A n c, .int .i64 (t.1 : Int), .bool true], .slice none 0 0, .int .i64 5]) (by simp [results, Tryd.results44, go_sem, z0, z1, z2]) rfl ?_
        exact ⟨t, none, 0, by rw [HE.out, HEL.out, HRC.out]; rfl, by rw [HEL.out]; exact Wd.nil, fun e => by rw [HE.out] at e; exact absurd e (by decide), (fun ad e => nomatch e), HPB.out true⟩
      | false =>
        have HBT := Lib.hid (show t.2 = true from by have := HNB.out; simpa using this)
        by_cases h1 : 1 < z
        · have HE := Lib.hid (show rrE o = 3 from by unfold rrE; rw [HINV1.out.1, if_pos h1])
          have HEL := Lib.hid (show rrL o = [] from by unfold rrL; rw [HE.out]; rfl)
          go_wp2_with fail
          obtain ⟨z0, z1, z2⟩ := blk_ce3 (HPT.out false)
          refine bodyPost_ret (v := .tuple #[.agg #[.slice A n c, .int .i64 (t.1 : Int), .bool false], .slice none 0 0, .int .i64 3]) (by simp [results, Tryd.results44, go_sem, z0, z1, z2]) rfl ?_
          exact ⟨t, none, 0, by rw [HE.out, HEL.out, HRC.out]; rfl, by rw [HEL.out]; exact Wd.nil, fun e => by rw [HE.out] at e; exact absurd e (by decide), (fun ad e => nomatch e), HPB.out false⟩
        · have HINV2 := Lib.hid (show o.1 = (rfs l (N - (q + 1)) t).1.map ((xs ++ [(v0, v1, z == 1)]) ++ ·) ∧ o.2 = (rfs l (N - (q + 1)) t).2 from by
            have h9 := HINV1.out
            rw [if_neg h1, if_neg h1] at h9; exact h9)
          have HSS := Lib.hid (show ∀ W, Below wf.heap.size wf W → W.cell? ad = some (.int .i64 v0) ∧ W.cell? ⟨ad.block, ad.off + 1, none⟩ = some (.int .i64 v1) ∧ W.cell? ⟨ad.block, ad.off + 2, none⟩ = some (.int .i64 z) from fun W hb => ⟨(hb.cell (World.block_lt_of_cell? _ _ k0)).trans k0, (hb.cell (World.block_lt_of_cell? _ _ k1)).trans k1, (hb.cell (World.block_lt_of_cell? _ _ k2)).trans k2⟩)
          have HWG := Lib.hid hwg
          have HWF := Lib.hid hwf
          obtain ⟨be, hbe⟩ : ∃ be, (z == 1) = be := ⟨_, rfl⟩
          rw [hbe] at HINV2
          go_wp2_with fail
          have hDB : Below wf.heap.size wf wf.drew := drew_below wf
          have HDB := Lib.hid hDB
          have hHeld := HSS.out wf.drew hDB
          clear hDB hwg hwf k0 k1 k2 k0' k1' k2' x0 x1 x2 f0 f1 f2 y0 y1 y2 r0 r1 r2 q0 q1 q2
          refine wp_region_noPanic ?_
          refine wp_region_held_drew (S := fun W => W.cell? ad = some (.int .i64 v0) ∧ W.cell? ⟨ad.block, ad.off + 1, none⟩ = some (.int .i64 v1) ∧ W.cell? ⟨ad.block, ad.off + 2, none⟩ = some (.int .i64 z)) (by kernel_rfl) (hHeld) (fun hHeld => ?_)
          refine wpAnyH_take (i := 0) rfl (by kernel_rfl) (by kernel_rfl) (by kernel_rfl) (fun _ _ _ h => h) (Or.inl ⟨by rfl, by intro W hSW; (try dsimp only at hSW); go_simp; try (with_reducible rfl)⟩) hHeld ?_
          try simp only [Act.put, List.getElem_toArray, List.getElem_cons_zero, List.getElem_cons_succ, List.setIfInBounds_toArray, List.set_cons_zero, List.set_cons_succ]
          refine wpAnyH_take (i := 1) rfl (by kernel_rfl) (by kernel_rfl) (by kernel_rfl) (fun _ _ _ h => h) (Or.inl ⟨by rfl, by intro W hSW; (try dsimp only at hSW); go_simp; try (with_reducible rfl)⟩) hHeld ?_
          try simp only [Act.put, List.getElem_toArray, List.getElem_cons_zero, List.getElem_cons_succ, List.setIfInBounds_toArray, List.set_cons_zero, List.set_cons_succ]
          refine wpAnyH_take (i := 2) rfl (by kernel_rfl) (by kernel_rfl) (by kernel_rfl) (fun _ _ _ h => h) (Or.inl ⟨by rfl, by intro W hSW; (try dsimp only at hSW); go_simp; try (with_reducible rfl)⟩) hHeld ?_
          try simp only [Act.put, List.getElem_toArray, List.getElem_cons_zero, List.getElem_cons_succ, List.setIfInBounds_toArray, List.set_cons_zero, List.set_cons_succ]
          refine wpAnyH_take (i := 3) rfl (by kernel_rfl) (by kernel_rfl) (by kernel_rfl) (fun _ _ _ h => h) (Or.inl ⟨by rfl, by intro W hSW; (try dsimp only at hSW); go_simp; try (with_reducible rfl)⟩) hHeld ?_
          try simp only [Act.put, List.getElem_toArray, List.getElem_cons_zero, List.getElem_cons_succ, List.setIfInBounds_toArray, List.set_cons_zero, List.set_cons_succ]
          refine wpAnyH_take (i := 4) rfl (by kernel_rfl) (by kernel_rfl) (by kernel_rfl) (fun _ _ _ h => h) (Or.inl ⟨by rfl, by intro W hSW; (try dsimp only at hSW); go_simp; try (with_reducible rfl)⟩) hHeld ?_
          try simp only [Act.put, List.getElem_toArray, List.getElem_cons_zero, List.getElem_cons_succ, List.setIfInBounds_toArray, List.set_cons_zero, List.set_cons_succ]
          refine wpAnyH_take (i := 5) rfl (by kernel_rfl) (by kernel_rfl) (by kernel_rfl) (fun _ _ _ h => h) (Or.inl ⟨by rfl, by intro W hSW; (try dsimp only at hSW); go_simp; try (with_reducible rfl)⟩) hHeld ?_
          try simp only [Act.put, List.getElem_toArray, List.getElem_cons_zero, List.getElem_cons_succ, List.setIfInBounds_toArray, List.set_cons_zero, List.set_cons_succ]
          refine wpAnyH_take (i := 6) rfl (by kernel_rfl) (by kernel_rfl) (by kernel_rfl) (fun _ _ _ h => h) (Or.inl ⟨by rfl, by intro W hSW; (try dsimp only at hSW); go_simp; try (with_reducible rfl)⟩) hHeld ?_
          try simp only [Act.put, List.getElem_toArray, List.getElem_cons_zero, List.getElem_cons_succ, List.setIfInBounds_toArray, List.set_cons_zero, List.set_cons_succ]
          refine wpAnyH_take (i := 7) rfl (by kernel_rfl) (by kernel_rfl) (by kernel_rfl) (fun _ _ _ h => h) (Or.inl ⟨by rfl, by intro W hSW; (try dsimp only at hSW); go_simp; try (with_reducible rfl)⟩) hHeld ?_
          try simp only [Act.put, List.getElem_toArray, List.getElem_cons_zero, List.getElem_cons_succ, List.setIfInBounds_toArray, List.set_cons_zero, List.set_cons_succ]
          refine wpAnyH_take (i := 8) rfl (by kernel_rfl) (by kernel_rfl) (by kernel_rfl) (fun _ _ _ h => h) (Or.inl ⟨by rfl, by intro W hSW; (try dsimp only at hSW); go_simp; try (with_reducible rfl)⟩) hHeld ?_
          try simp only [Act.put, List.getElem_toArray, List.getElem_cons_zero, List.getElem_cons_succ, List.setIfInBounds_toArray, List.set_cons_zero, List.set_cons_succ]
          refine wpAnyH_take (i := 9) rfl (by kernel_rfl) (by kernel_rfl) (by kernel_rfl) (fun _ _ _ h => h) (Or.inl ⟨by rfl, by intro W hSW; (try dsimp only at hSW); go_simp; try (with_reducible rfl)⟩) hHeld ?_
          try simp only [Act.put, List.getElem_toArray, List.getElem_cons_zero, List.getElem_cons_succ, List.setIfInBounds_toArray, List.set_cons_zero, List.set_cons_succ]
          refine wpAnyH_take (i := 10) rfl (by kernel_rfl) (by kernel_rfl) (by kernel_rfl) (fun _ _ _ h => h) (Or.inl ⟨by rfl, by intro W hSW; (try dsimp only at hSW); go_simp; try (with_reducible rfl)⟩) hHeld ?_
          try simp only [Act.put, List.getElem_toArray, List.getElem_cons_zero, List.getElem_cons_succ, List.setIfInBounds_toArray, List.set_cons_zero, List.set_cons_succ]
          refine wpAnyH_take (i := 11) rfl (by kernel_rfl) (by kernel_rfl) (by kernel_rfl) (fun _ _ _ h => h) (Or.inl ⟨by rfl, by intro W hSW; (try dsimp only at hSW); go_simp; try (with_reducible rfl)⟩) hHeld ?_
          try simp only [Act.put, List.getElem_toArray, List.getElem_cons_zero, List.getElem_cons_succ, List.setIfInBounds_toArray, List.set_cons_zero, List.set_cons_succ]
          refine wpAnyH_ready (rs := [12]) (by kernel_rfl) (by simp) ?_
          refine AllReadyH.cons rfl (fun K hK => ?_) AllReadyH.nil
          go_simp
          refine hK.out _ _ (HSS.out _ (to_ HDB.out (alloc_ _ _))) ?_
          clear hK K hHeld
          intro hHeld
          try simp only [Act.put, List.getElem_toArray, List.getElem_cons_zero, List.getElem_cons_succ, List.setIfInBounds_toArray, List.set_cons_zero, List.set_cons_succ]
          refine wpAnyH_ready (rs := [13]) (by kernel_rfl) (by simp) ?_
          refine AllReadyH.cons rfl (fun K hK => ?_) AllReadyH.nil
          refine step_append_own rfl _ _ 23 rfl (w.heap.size + 2) 51 i0 (.agg #[.int .i64 0, .int .i64 0, .bool false]) 3 24 Tryd.underlying23 hi hz0 hz1 hz2 rfl (by decide) _ q (flRl xs) rfl (ownk_keep HOG2.out fun gg hb hlt => Below.heap_alloc _ _ _ hlt) ⟨wf.heap.size, 0, none⟩ 1 (encRl (v0, v1, be)) rfl rfl (fun j u hu => by rw [add_plain, Nat.zero_add]; exact ((Blk.new wf.drew 51 #[.int .i64 v0, .int .i64 v1, .bool be]).cell j).trans (by simpa [encRl] using hu)) (by simp [encRl, Value.oneCell']) (by unfold maxLen; omega) (by omega) (by have := HSG2.out; simp; omega) ?_
          intro v' w6 h2 h3
          rw [flRl_snoc] at h2
          have H2 := Lib.hid h2
          have H3 := Lib.hid h3
          have hb6 : Below wf.heap.size wf w6 ∨ True := .inr trivial
          have hS6 : w6.cell? ad = some (.int .i64 v0) ∧ w6.cell? ⟨ad.block, ad.off + 1, none⟩ = some (.int .i64 v1) ∧ w6.cell? ⟨ad.block, ad.off + 2, none⟩ = some (.int .i64 z) := by
            have hx := HSS.out _ (to_ HDB.out (alloc_ wf.drew (.cells #[.int .i64 v0, .int .i64 v1, .bool be] 51)))
            have hlt := World.block_lt_of_cell? _ _ hx.1
            have hne : ∀ r, Value.ownBlock u6 = some r → r ≠ ad.block := fun r e h => HNE.out r e ad rfl h
            have e4 : ∀ p : Addr, p.block = ad.block → w6.cell? p = (wf.drew.alloc (.cells #[.int .i64 v0, .int .i64 v1, .bool be] 51)).cell? p := fun p hp => World.cell?_of_block (h3.block p.block (by rw [hp]; exact hlt) (by rw [hp]; intro e; exact hne _ e.symm rfl))
            exact ⟨(e4 _ rfl).trans hx.1, (e4 ⟨ad.block, ad.off + 1, none⟩ rfl).trans hx.2.1, (e4 ⟨ad.block, ad.off + 2, none⟩ rfl).trans hx.2.2⟩
          clear h2 h3 hb6
          refine hK.out _ _ hS6 ?_
          clear hK K hHeld hS6
          intro hHeld
          try simp only [Act.put, List.getElem_toArray, List.getElem_cons_zero, List.getElem_cons_succ, List.setIfInBounds_toArray, List.set_cons_zero, List.set_cons_succ]
          refine wpAnyH_take (i := 14) rfl (by kernel_rfl) (by kernel_rfl) (by kernel_rfl) (fun _ _ _ h => h) (Or.inl ⟨by rfl, by intro W hSW; (try dsimp only at hSW); go_simp; try (with_reducible rfl)⟩) hHeld ?_
          try simp only [Act.put, List.getElem_toArray, List.getElem_cons_zero, List.getElem_cons_succ, List.setIfInBounds_toArray, List.set_cons_zero, List.set_cons_succ]
          refine wpAnyH_done (by kernel_rfl) ?_ _
          refine NoPanic.normal ?_
          go_wp2_with fail
          go_roundw
          case rel =>
            have hb4 : Below (w.heap.size + 2) wf w6 := (((drew_below wf).mono HSG2.out).trans ((alloc_ wf.drew _).mono HSG2.out)).grown H3.out (by have := HSG2.out; simp; omega) fun r e => (HOG2.out.lt r e).1
            refine ⟨q + 1, xs ++ [(v0, v1, be)], t, by omega, by go_num, ⟨HRG2.out.below hb4 (by omega), HTG2.out.below hb4 (by omega)⟩, H2.out, HBG2.out.trans (hb4.mono (by omega)), Lib.hid (by have := hb4.size; have := HSG2.out; omega), Lib.hid (by rw [List.length_append, HXL.out]; rfl), HTN, HINV2⟩
          case measure => simp [intOf]; omega
    · obtain rfl : q = N := by omega
      have hz := HINV.out
      rw [Nat.sub_self] at hz
      have HZ := Lib.hid (show o.1 = some xs ∧ o.2 = st from by rw [hz.1, hz.2]; unfold rfs; simp)
      obtain ⟨nb, hnb⟩ : ∃ b, (!st.2) = b := ⟨_, rfl⟩
      have HNB := Lib.hid hnb
      have HRC := Lib.hid (show rdC A n c st = #[.slice A n c, .int .i64 (st.1 : Int), .bool nb] from by rw [rdC_eq, hnb])
      rw [hnb] at HR2
      obtain ⟨y0, y1, y2⟩ := blk_ce3 HR2.out
      obtain ⟨r0, r1, r2⟩ := blk_ce3 HT.out
      obtain ⟨q0, q1, q2⟩ := blk_fr3 HT.out
      have HPT := Lib.hid (show ∀ b, Blk (((wr.setCell ⟨w.heap.size + 1, 0, none⟩ (.slice A n c)).setCell ⟨w.heap.size + 1, 1, none⟩ (.int .i64 (st.1 : Int))).setCell ⟨w.heap.size + 1, 2, none⟩ (.bool b)) (w.heap.size + 1) 43 #[.slice A n c, .int .i64 (st.1 : Int), .bool b] from fun b => blk_put3 HT.out _ _ _)
      have HPB := Lib.hid (show ∀ b, Below w.heap.size w (((wr.setCell ⟨w.heap.size + 1, 0, none⟩ (.slice A n c)).setCell ⟨w.heap.size + 1, 1, none⟩ (.int .i64 (st.1 : Int))).setCell ⟨w.heap.size + 1, 2, none⟩ (.bool b)) from fun b => below_put3 HBE.out _ (by omega) _ _ _)
      clear hz hnb
      cases nb with
      | true =>
        have HE := Lib.hid (show rrE o = 5 from by unfold rrE; rw [HZ.out.1, HZ.out.2]; have := HNB.out; simp at this; simp [this])
        have HEL := Lib.hid (show rrL o = [] from by unfold rrL; rw [HE.out]; rfl)
        go_wp2_with fail
        obtain ⟨z0, z1, z2⟩ := blk_ce3 (HPT.out true)
        refine bodyPost_ret (v := .tuple #[.agg #[.slice A n c, .int .i64 (st.1 : Int), .bool true], .slice none 0 0, .int .i64 5]) (by simp [results, Tryd.results44, go_sem, z0, z1, z2]) rfl ?_
        exact ⟨st, none, 0, by rw [HE.out, HEL.out, HRC.out]; rfl, by rw [HEL.out]; exact Wd.nil, fun e => by rw [HE.out] at e; exact absurd e (by decide), (fun ad e => nomatch e), HPB.out true⟩
      | false =>
        have HE := Lib.hid (show rrE o = 0 from by unfold rrE; rw [HZ.out.1, HZ.out.2]; have := HNB.out; simp at this; simp [this])
        have HEL := Lib.hid (show rrL o = xs from by unfold rrL; rw [HE.out, HZ.out.1]; rfl)
        obtain ⟨A5, c5, rfl, hl5⟩ := RlL.own HXL.out HOW.out
        have HL5 := Lib.hid hl5
        clear hl5
        go_wp2_with fail
        obtain ⟨z0, z1, z2⟩ := blk_ce3 (HPT.out false)
        refine bodyPost_ret (v := .tuple #[.agg #[.slice A n c, .int .i64 (st.1 : Int), .bool false], .slice A5 q c5, .int .i64 0]) (by simp [results, Tryd.results44, go_sem, z0, z1, z2]) rfl ?_
        refine ⟨st, A5, c5, by rw [HE.out, HEL.out, HRC.out, HXL.out], ?_, fun _ => HZ.out.2.symm, (fun ad e => by subst e; have := (HOW.out.lt ad.block rfl).1; omega), HPB.out false⟩
        rw [HEL.out, HXL.out]
        have h9 := ownk_keep (w' := (((wr.setCell ⟨w.heap.size + 1, 0, none⟩ (.slice A n c)).setCell ⟨w.heap.size + 1, 1, none⟩ (.int .i64 (st.1 : Int))).setCell ⟨w.heap.size + 1, 2, none⟩ (.bool false))) HOW.out fun gg hb hlt => heap_put3 wr (w.heap.size + 1) gg (by omega) _ _ _
        obtain ⟨A9, c9, e9, h9⟩ := RlL.own HXL.out h9
        injection e9 with e1 e2 e3
        subst e1 e3
        exact h9
end Go.Proofs.YthkbdclnnpcoiaaDoor.By
