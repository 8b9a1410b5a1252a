/-
  WALKS of layer 15: the document's own data of bytes.
-/
import Derived.Test.YthkbdclnnpcoiaaDoorEg
import Derived.RegionTactic
import Derived.BigRegion
namespace Go.Proofs.YthkbdclnnpcoiaaDoor.By
open Go.RowKit
open Mem Gm Rf
set_option linter.unusedSimpArgs false
set_option linter.unusedVariables false

theorem gdV_ok {l : List UInt8} {s : Std} (h : rrE (gR l s) = 0) : gdV l s = ⟨rvS l s 1, wds l (gN1 l s) (gS2 l s), rrL (gR l s), 0⟩ := by
  unfold rrL
  rw [if_pos h]
  unfold rrE at h
  unfold gdV
  cases h1 : (gR l s).1 with
  | none => rw [h1] at h; simp at h
  | some rs =>
    rw [h1] at h
    by_cases h2 : (gR l s).2.2 = false
    · simp [h2] at h
    · simp [h2]
theorem gdV_no {l : List UInt8} {s : Std} (h : rrE (gR l s) ≠ 0) : gdV l s = ⟨0, [], [], rrE (gR l s)⟩ ∧ rrL (gR l s) = [] := by
  refine ⟨?_, by unfold rrL; rw [if_neg h]⟩
  unfold rrE at h ⊢
  unfold gdV
  cases h1 : (gR l s).1 with
  | none => rfl
  | some rs =>
    rw [h1] at h
    by_cases h2 : (gR l s).2.2 = false
    · simp [h2]
    · simp [h2] at h
def RgAns (d : Gd) (s5 : Std) (w : World) (A : Option Addr) (n c : Nat) (e : Ending) (w' : World) : Prop :=
  ∃ (st : Std) (AW : Option Addr) (cW : Nat) (AR : Option Addr) (cR : Nat), e = .returned (.tuple #[.agg (rdC A n c st), .agg #[.int .i64 d.kd, .slice AW d.ws.length cW, .slice AR d.rs.length cR], .int .i64 d.er]) ∧ IW w' (.slice AW d.ws.length cW) d.ws ∧ RlL w' AR d.rs.length cR d.rs ∧ (d.er = 0 → st = s5) ∧ Below w.heap.size w w'
theorem wst_le {l : List UInt8} : ∀ (q : Nat) (s : Std), s.1 ≤ l.length → (wst l q s).1 ≤ l.length
  | 0, s, h => h
  | q + 1, s, h => wst_le q _ (pgS_le h 8)
theorem vl2 (l : List UInt8) (s : Std) : vlN l s 2 = [rvS l s 1, rvS l (pgS l s 1) 1] := rfl

theorem RlL.keepA {w w' : World} {A : Option Addr} {n c : Nat} {l : List Rl} (h : RlL w A n c l) (hk : ∀ ad, A = some ad → w'.heap[ad.block]? = w.heap[ad.block]?) (hs : w.heap.size ≤ w'.heap.size) : RlL w' A n c l :=
  ⟨h.1, h.2.1, h.2.2.1, h.2.2.2.1, fun i x hi => by
    obtain ⟨ad, e, hb, hc⟩ := h.2.2.2.2 i x hi
    refine ⟨ad, e, by omega, fun j u hu => ?_⟩
    exact (World.cell?_of_block (a := ((ad.add (i * 3)).add j)) (by rw [add_block, add_block]; exact hk ad e)).trans (hc j u hu)⟩
/-- How things stand while the document's data are got. -/
def GJ (w : World) (A : Option Addr) (n c : Nat) (D : Nat) (kd : Int) (st : Std) (v1 v2 : Value) (wr : World) : Prop :=
  (Blk wr w.heap.size 43 (rdC A n c st) ∧ Blk wr (w.heap.size + 1) 43 #[.slice none 0 0, .int .i64 0, .bool false] ∧ Blk wr (w.heap.size + 2) 25 #[.int .i64 0, .slice none 0 0, .slice none 0 0] ∧ Blk wr D 25 #[.int .i64 kd, v1, v2]) ∧ Below w.heap.size w wr
theorem GJ.below {w : World} {A : Option Addr} {n c D : Nat} {kd : Int} {st : Std} {v1 v2 : Value} {wr w' : World} (hD : w.heap.size + 2 < D) (h : GJ w A n c D kd st v1 v2 wr) (hb : Below (D + 1) wr w') : GJ w A n c D kd st v1 v2 w' :=
  ⟨⟨h.1.1.below hb (by omega), h.1.2.1.below hb (by omega), h.1.2.2.1.below hb (by omega), h.1.2.2.2.below hb (by omega)⟩, h.2.trans (hb.mono (by omega))⟩
theorem GJ.up {w : World} {A : Option Addr} {n c D : Nat} {kd : Int} {st : Std} {v1 v2 : Value} {wr w' : World} (hD : w.heap.size + 2 < D) (h : GJ w A n c D kd st v1 v2 wr) (hb : Below wr.heap.size wr w') : GJ w A n c D kd st v1 v2 w' :=
  h.below hD (hb.mono (by have := h.1.2.2.2.lt; omega))
theorem GJ.rd {w : World} {A : Option Addr} {n c D : Nat} {kd : Int} {st : Std} {v1 v2 : Value} {wr : World} (hD : w.heap.size + 2 < D) (h : GJ w A n c D kd st v1 v2 wr) (t : Std) (nb : Bool) (hnb : (!t.2) = nb) :
    GJ w A n c D kd t v1 v2 (((wr.setCell ⟨w.heap.size, 0, none⟩ (.slice A n c)).setCell ⟨w.heap.size, 1, none⟩ (.int .i64 (t.1 : Int))).setCell ⟨w.heap.size, 2, none⟩ (.bool nb)) := by
  subst hnb
  exact ⟨⟨blk_put3 h.1.1 _ _ _, blk_away3 h.1.2.1 _ (by omega) _ _ _, blk_away3 h.1.2.2.1 _ (by omega) _ _ _, blk_away3 h.1.2.2.2 _ (by omega) _ _ _⟩, below_put3 h.2 _ (Nat.le_refl _) _ _ _⟩
/-- The answers' cells were set. -/
theorem GJ.put {w : World} {A : Option Addr} {n c D : Nat} {kd : Int} {st : Std} {v1 v2 : Value} {wr : World} (h : GJ w A n c D kd st v1 v2 wr) (a b d x y z : Value) :
    Blk ((((((wr.setCell ⟨w.heap.size + 1, 0, none⟩ a).setCell ⟨w.heap.size + 1, 1, none⟩ b).setCell ⟨w.heap.size + 1, 2, none⟩ d).setCell ⟨w.heap.size + 1 + 1, 0, none⟩ x).setCell ⟨w.heap.size + 1 + 1, 1, none⟩ y).setCell ⟨w.heap.size + 1 + 1, 2, none⟩ z) (w.heap.size + 1) 43 #[a, b, d] ∧
    Blk ((((((wr.setCell ⟨w.heap.size + 1, 0, none⟩ a).setCell ⟨w.heap.size + 1, 1, none⟩ b).setCell ⟨w.heap.size + 1, 2, none⟩ d).setCell ⟨w.heap.size + 1 + 1, 0, none⟩ x).setCell ⟨w.heap.size + 1 + 1, 1, none⟩ y).setCell ⟨w.heap.size + 1 + 1, 2, none⟩ z) (w.heap.size + 1 + 1) 25 #[x, y, z] ∧
    Below w.heap.size w ((((((wr.setCell ⟨w.heap.size + 1, 0, none⟩ a).setCell ⟨w.heap.size + 1, 1, none⟩ b).setCell ⟨w.heap.size + 1, 2, none⟩ d).setCell ⟨w.heap.size + 1 + 1, 0, none⟩ x).setCell ⟨w.heap.size + 1 + 1, 1, none⟩ y).setCell ⟨w.heap.size + 1 + 1, 2, none⟩ z) ∧
    ∀ gg, gg ≠ w.heap.size + 1 → gg ≠ w.heap.size + 1 + 1 → ((((((wr.setCell ⟨w.heap.size + 1, 0, none⟩ a).setCell ⟨w.heap.size + 1, 1, none⟩ b).setCell ⟨w.heap.size + 1, 2, none⟩ d).setCell ⟨w.heap.size + 1 + 1, 0, none⟩ x).setCell ⟨w.heap.size + 1 + 1, 1, none⟩ y).setCell ⟨w.heap.size + 1 + 1, 2, none⟩ z).heap[gg]? = wr.heap[gg]? :=
  ⟨blk_away3 (blk_put3 h.1.2.1 _ _ _) _ (by omega) _ _ _, blk_put3 (blk_away3 h.1.2.2.1 _ (by omega) _ _ _) _ _ _, below_put3 (below_put3 h.2 _ (by omega) _ _ _) _ (by omega) _ _ _, fun gg h1 h2 => (heap_put3 _ _ gg h2 _ _ _).trans (heap_put3 _ _ gg h1 _ _ _)⟩
theorem GJ.set1 {w : World} {A : Option Addr} {n c D : Nat} {kd : Int} {st : Std} {v1 v2 : Value} {wr : World} (hD : w.heap.size + 2 < D) (h : GJ w A n c D kd st v1 v2 wr) (v : Value) : GJ w A n c D kd st v v2 (wr.setCell ⟨D, 1, none⟩ v) :=
  ⟨⟨blk_away h.1.1 ⟨D, 1, none⟩ v (by show w.heap.size ≠ D; omega), blk_away h.1.2.1 ⟨D, 1, none⟩ v (by show w.heap.size + 1 ≠ D; omega), blk_away h.1.2.2.1 ⟨D, 1, none⟩ v (by show w.heap.size + 2 ≠ D; omega), h.1.2.2.2.stored 1 v⟩, h.2.setCell (p := ⟨D, 1, none⟩) (by show w.heap.size ≤ D; omega) v⟩
theorem GJ.set2 {w : World} {A : Option Addr} {n c D : Nat} {kd : Int} {st : Std} {v1 v2 : Value} {wr : World} (hD : w.heap.size + 2 < D) (h : GJ w A n c D kd st v1 v2 wr) (v : Value) : GJ w A n c D kd st v1 v (wr.setCell ⟨D, 2, none⟩ v) :=
  ⟨⟨blk_away h.1.1 ⟨D, 2, none⟩ v (by show w.heap.size ≠ D; omega), blk_away h.1.2.1 ⟨D, 2, none⟩ v (by show w.heap.size + 1 ≠ D; omega), blk_away h.1.2.2.1 ⟨D, 2, none⟩ v (by show w.heap.size + 2 ≠ D; omega), h.1.2.2.2.stored 2 v⟩, h.2.setCell (p := ⟨D, 2, none⟩) (by show w.heap.size ≤ D; omega) v⟩

set_option maxRecDepth 100000 in
set_option maxHeartbeats 2000000 in
theorem rgetD_any (w : World) (A : Option Addr) (n c : Nat) (l : List UInt8) (s : Std) (hn : l.length = n) (hl : n ≤ 1000000) (hs : s.1 ≤ n) (hv : SlV w w.heap.size (.slice A n c) (u8s l)) :
    Calls Tryd.prog 19 #[.agg (rdC A n c s)] w (RgAns (gdV l s) (gR l s).2 w A n c) := by
  obtain ⟨i0, hi, hz0, hz1, hz2⟩ := info_parts info2
  obtain ⟨kd, hkd⟩ : ∃ kd, rvS l s 1 = kd := ⟨_, rfl⟩
  obtain ⟨N1, hN1⟩ : ∃ N, gN1 l s = N := ⟨_, rfl⟩
  have hN1I : rvS l (pgS l s 1) 1 = (N1 : Int) := by have := num_one l (pgS l s 1); unfold gN1 at hN1; omega
  have hN1B : N1 ≤ 255 := by have := num_one l (pgS l s 1); omega
  obtain ⟨s2, hs2⟩ : ∃ x, gS2 l s = x := ⟨_, rfl⟩
  have HL2 := Lib.hid (show s2.1 ≤ n by rw [← hs2, ← hn]; exact stN_le (s := s) (by omega) 2)
  obtain ⟨o, ho⟩ : ∃ o, gR l s = o := ⟨_, rfl⟩
  have HO := Lib.hid (show rfs l (rvS l (wst l N1 s2) 1).toNat (pgS l (wst l N1 s2) 1) = o from by rw [← ho]; unfold gR gN2 gS3; rw [hN1, hs2])
  have HGD := Lib.hid (show (rrE o = 0 → gdV l s = ⟨kd, wds l N1 s2, rrL o, 0⟩) ∧ (rrE o ≠ 0 → gdV l s = ⟨0, [], [], rrE o⟩ ∧ rrL o = []) from by
    rw [← ho, ← hkd, ← hN1, ← hs2]; exact ⟨gdV_ok, gdV_no⟩)
  have HNS := Lib.hid (fun W (hb : Below w.heap.size w W) => nums_any 2 (by decide) (W.alloc (.cells #[.int .i64 1, .int .i64 1] 3)) A n c W.heap.size l s hn hl hs ((hv.below (to_ hb (alloc_ _ _))).more (to_ hb (alloc_ _ _)).size) (by simp) (fun k hk => by
    rw [(Blk.new W _ _).cell]
    match k, hk with
    | 0, _ => rfl
    | 1, _ => rfl))
  have HNM := Lib.hid (show ∀ W (st : Std), Below w.heap.size w W → st.1 ≤ n → Calls Tryd.prog 43 #[.agg #[.slice A n c, .int .i64 (st.1 : Int), .bool (!st.2)], .int .i64 8, .bool false] W fun e w' => e = .returned (.tuple #[.agg #[.slice A n c, .int .i64 ((pgS l st 8).1 : Int), .bool (!(pgS l st 8).2)], .int .i64 (rvS l st 8)]) ∧ Below W.heap.size W w' from fun W st hb hst => by
    have := rnum_any W w.heap.size A c l st.1 st.2 false 8 (by omega) (by omega) (by rw [hn]; exact hv.below hb)
    rw [hn] at this; exact this)
  have HGR := Lib.hid (fun W (hb : Below w.heap.size w W) (st : Std) (hst : st.1 ≤ n) => rgetR_any W A n c l st hn hl hst ((hv.below hb).more hb.size))
  have HNL := Lib.hid hn
  rw [ho]
  have hv2 : stN l s 2 = s2 := hs2
  have hvl : vlN l s 2 = [kd, (N1 : Int)] := by rw [vl2, hkd, hN1I]
  obtain ⟨nb, hnb⟩ : ∃ b, (!s2.2) = b := ⟨_, rfl⟩
  have HNB := Lib.hid hnb
  unfold NmAns rdC at HNS
  rw [hv2, hvl, hnb] at HNS
  obtain ⟨W0, hW0⟩ : ∃ W0, ((w.alloc (.cells #[.slice A n c, .int .i64 (s.1 : Int), .bool (!s.2)] 43)).alloc (.cells #[.slice none 0 0, .int .i64 0, .bool false] 43)).alloc (.cells #[.int .i64 0, .slice none 0 0, .slice none 0 0] 25) = W0 := ⟨_, rfl⟩
  have HS0 := Lib.hid (show Blk W0 w.heap.size 43 #[.slice A n c, .int .i64 (s.1 : Int), .bool (!s.2)] ∧ Blk W0 (w.heap.size + 1) 43 #[.slice none 0 0, .int .i64 0, .bool false] ∧ Blk W0 (w.heap.size + 2) 25 #[.int .i64 0, .slice none 0 0, .slice none 0 0] ∧ Below w.heap.size w W0 from by
    rw [← hW0]
    refine ⟨((Blk.new w _ _).alloc _).alloc _, ?_, ?_, to_ (to_ (alloc_ _ _) (alloc_ _ _)) (alloc_ _ _)⟩
    · have := Blk.new (w.alloc (.cells #[.slice A n c, .int .i64 (s.1 : Int), .bool (!s.2)] 43)) 43 #[.slice none 0 0, .int .i64 0, .bool false]
      rw [World.size_alloc] at this
      exact this.alloc _
    · have := Blk.new ((w.alloc (.cells #[.slice A n c, .int .i64 (s.1 : Int), .bool (!s.2)] 43)).alloc (.cells #[.slice none 0 0, .int .i64 0, .bool false] 43)) 25 #[.int .i64 0, .slice none 0 0, .slice none 0 0]
      rwa [World.size_alloc, World.size_alloc] at this)
  clear hv hkd hN1 hN1I hs2 hs ho hv2 hvl hnb
  obtain ⟨x0, x1, x2⟩ := blk_ce3 HS0.out.1
  unfold rdC
  go_enter Tryd.func19, Tryd.ntmps19
  go_wp2_with fail
  clear hW0 x0 x1 x2
  refine (HNS.out W0 HS0.out.2.2.2).mono ?_
  rintro e w1 ⟨A2, c2, rfl, h2, b1, ha2⟩
  have hb1 : Below W0.heap.size W0 w1 := to_ (alloc_ _ _) b1
  have HR1 := Lib.hid (HS0.out.1.below hb1 HS0.out.1.lt)
  have HT1 := Lib.hid (HS0.out.2.1.below hb1 HS0.out.2.1.lt)
  have HU1 := Lib.hid (HS0.out.2.2.1.below hb1 HS0.out.2.2.1.lt)
  have HB1 := Lib.hid (to_ HS0.out.2.2.2 hb1)
  obtain ⟨ad, hA2, hc⟩ : ∃ ad, A2 = some ad ∧ ∀ j, j < 2 → w1.cell? (ad.add j) = some (.int .i64 (el [kd, (N1 : Int)] j)) := by
    rcases ints_row (A := A2) (c := c2) (l := [kd, (N1 : Int)]) h2 with ⟨e, _⟩ | ⟨ad, e, _, hc⟩
    · cases e
    · exact ⟨ad, e, hc⟩
  have HAD := Lib.hid (show w.heap.size + 2 < ad.block ∧ ad.block < w1.heap.size from ⟨by have h3 := ha2 ad hA2; have h4 := HS0.out.2.2.1.lt; simp at h3; omega, by have := World.block_lt_of_cell? w1 _ (hc 0 (by decide)); exact this⟩)
  subst hA2
  obtain ⟨x0, x1, x2⟩ := blk_ce3 HR1.out
  obtain ⟨f0, f1, f2⟩ := blk_fr3 HR1.out
  clear b1 h2 ha2 hb1
  obtain ⟨wg, hwg⟩ : ∃ wg, ((w1.setCell ⟨w.heap.size, 0, none⟩ (.slice A n c)).setCell ⟨w.heap.size, 1, none⟩ (.int .i64 (s2.1 : Int))).setCell ⟨w.heap.size, 2, none⟩ (.bool nb) = wg := ⟨_, rfl⟩
  have hsg : wg.heap.size = w1.heap.size := by rw [← hwg]; simp [World.setCell]
  have HK := Lib.hid (show ∀ p : Addr, p.block ≠ w.heap.size → wg.cell? p = w1.cell? p from fun p hp => World.cell?_of_block (by rw [← hwg]; exact heap_put3 w1 w.heap.size p.block hp _ _ _))
  have k0 : wg.cell? ad = some (.int .i64 kd) := by have := hc 0 (by decide); rw [show ad.add 0 = ad from by unfold Addr.add; simp] at this; rw [HK.out _ (by have := HAD.out; omega)]; exact this
  have k1 : wg.cell? ⟨ad.block, ad.off + 1, none⟩ = some (.int .i64 (N1 : Int)) := by have := hc 1 (by decide); rw [add_field _ 1 (by decide)] at this; rw [HK.out _ (by show ad.block ≠ _; have := HAD.out; omega)]; exact this
  obtain ⟨D, hDD⟩ : ∃ D, wg.heap.size = D := ⟨_, rfl⟩
  obtain ⟨W2, hW2⟩ : ∃ W2, wg.alloc (.cells #[.int .i64 kd, .slice none 0 0, .slice none 0 0] 25) = W2 := ⟨_, rfl⟩
  have HD := Lib.hid (show w.heap.size + 2 < D by rw [← hDD, hsg]; have := HAD.out; omega)
  have HDA := Lib.hid (show ad.block < D by rw [← hDD, hsg]; have := HAD.out; omega)
  have HGI := Lib.hid (show GJ w A n c D kd s2 (.slice none 0 0) (.slice none 0 0) W2 from by
    rw [← hW2, ← hDD]
    refine ⟨⟨?_, ?_, ?_, Blk.new wg _ _⟩, to_ (by rw [← hwg]; exact below_put3 HB1.out _ (Nat.le_refl _) _ _ _) (alloc_ _ _)⟩
    · rw [rdC_eq, HNB.out, ← hwg]; exact (blk_put3 HR1.out _ _ _).alloc _
    · rw [← hwg]; exact (blk_away3 HT1.out _ (by omega) _ _ _).alloc _
    · rw [← hwg]; exact (blk_away3 HU1.out _ (by omega) _ _ _).alloc _)
  have HK1 := Lib.hid (show W2.cell? ⟨ad.block, ad.off + 1, none⟩ = some (.int .i64 (N1 : Int)) from by rw [← hW2]; exact ((alloc_ wg _).cell (World.block_lt_of_cell? _ _ k1)).trans k1)
  have HW2 := Lib.hid hW2
  have HDD := Lib.hid hDD
  clear hc hsg hW2 hDD
  go_wp2_with fail
  rw [HW2.out, HDD.out]
  clear HW2 HDD hwg x0 x1 x2 f0 f1 f2 k0 k1
  go_loopw [7] (fun i wr => ∃ (q : Nat) (v : Value), q ≤ N1 ∧ i = .int .i64 (q : Int) ∧ GJ w A n c D kd (wst l q s2) v (.slice none 0 0) wr ∧ wr.ownsRow (D + 1) 2 1 v q (ints (wds l q s2)) ∧ wr.cell? ⟨ad.block, ad.off + 1, none⟩ = some (.int .i64 (N1 : Int))) (fun i _ => N1 - (intOf i).toNat)
  case atStart => exact ⟨0, _, Nat.zero_le _, rfl, HGI.out, World.ownsRow_nil _ _ _ _, HK1.out⟩
  case round =>
    obtain ⟨q, v, hq, rfl, hgj, hown, k1⟩ := hrel
    have HGJ := Lib.hid hgj
    have HOW := Lib.hid hown
    have HK := Lib.hid k1
    have HST := Lib.hid (show (wst l q s2).1 ≤ n by rw [← HNL.out]; exact wst_le q s2 (by rw [HNL.out]; exact HL2.out))
    clear hgj hown
    by_cases hlt : q < N1
    · have hqI : (q : Int) < (N1 : Int) := by omega
      have HWN := Lib.hid (wds_next l q s2)
      have HSN := Lib.hid (wst_next l q s2)
      obtain ⟨st, hst⟩ : ∃ x, wst l q s2 = x := ⟨_, rfl⟩
      rw [hst] at HGJ HWN HSN HST
      have HN8 := Lib.hid (HNM.out wr st HGJ.out.2 HST.out)
      obtain ⟨t, ht⟩ : ∃ x, pgS l st 8 = x := ⟨_, rfl⟩
      rw [ht] at HN8 HSN
      obtain ⟨x, hx⟩ : ∃ x, rvS l st 8 = x := ⟨_, rfl⟩
      rw [hx] at HN8 HWN
      obtain ⟨nb1, hnb1⟩ : ∃ b, (!st.2) = b := ⟨_, rfl⟩
      obtain ⟨nb2, hnb2⟩ : ∃ b, (!t.2) = b := ⟨_, rfl⟩
      rw [hnb1, hnb2] at HN8
      have HR := Lib.hid (show Blk wr w.heap.size 43 #[.slice A n c, .int .i64 (st.1 : Int), .bool nb1] from by rw [← hnb1]; exact HGJ.out.1.1)
      have HB2 := Lib.hid hnb2
      obtain ⟨x0, x1, x2⟩ := blk_ce3 HR.out
      clear hst ht hx hnb1 hnb2
      go_wp2_with fail
      clear x0 x1 x2 k1
      refine HN8.out.mono ?_
      rintro e w2 ⟨rfl, b2⟩
      have HJ2 := Lib.hid (HGJ.out.up HD.out b2)
      have HR2 := Lib.hid (HR.out.below b2 HR.out.lt)
      have HBB := Lib.hid b2
      obtain ⟨x0, x1, x2⟩ := blk_ce3 HR2.out
      obtain ⟨f0, f1, f2⟩ := blk_fr3 HR2.out
      have hlt2 : w.heap.size < w2.heap.size := HR2.out.lt
      clear b2
      obtain ⟨wg, hwg⟩ : ∃ wg, ((w2.setCell ⟨w.heap.size, 0, none⟩ (.slice A n c)).setCell ⟨w.heap.size, 1, none⟩ (.int .i64 (t.1 : Int))).setCell ⟨w.heap.size, 2, none⟩ (.bool nb2) = wg := ⟨_, rfl⟩
      obtain ⟨wf, hwf⟩ : ∃ wf, wg.alloc (.cells #[.slice A n c, .int .i64 (t.1 : Int), .bool nb2] 43) = wf := ⟨_, rfl⟩
      have HJF := Lib.hid (show GJ w A n c D kd t v (.slice none 0 0) wf from by rw [← hwf, ← hwg]; exact (HJ2.out.rd HD.out t nb2 HB2.out).up HD.out (alloc_ _ _))
      have hkeep : ∀ gg, gg ≠ w.heap.size → gg < w2.heap.size → wf.heap[gg]? = w2.heap[gg]? := fun gg hne hlt => by
        rw [← hwf]
        refine (Below.heap_alloc _ _ _ (by rw [← hwg]; simpa [World.setCell] using hlt)).trans ?_
        rw [← hwg]; exact heap_put3 w2 w.heap.size gg hne _ _ _
      have HOF := Lib.hid (show wf.ownsRow (D + 1) 2 1 v q (ints (wds l q s2)) from ownk_keep HOW.out fun gg hb hlt => (hkeep gg (by have := HD.out; omega) (by have := HBB.out.size; omega)).trans (HBB.out.block gg hlt))
      have HKF := Lib.hid (show wf.cell? ⟨ad.block, ad.off + 1, none⟩ = some (.int .i64 (N1 : Int)) from by
        have hb8 : ad.block < wr.heap.size := by have := HDA.out; have := HGJ.out.1.2.2.2.lt; omega
        have h8 : w2.cell? ⟨ad.block, ad.off + 1, none⟩ = some (.int .i64 (N1 : Int)) := (HBB.out.cell (p := ⟨ad.block, ad.off + 1, none⟩) hb8).trans HK.out
        exact (World.cell?_of_block (a := ⟨ad.block, ad.off + 1, none⟩) (hkeep ad.block (by have := HAD.out; omega) (by have := HBB.out.size; omega))).trans h8)
      have cD : wf.cell? ⟨D, 1, none⟩ = some v := HJF.out.1.2.2.2.cell 1
      have hDl : D < wf.heap.size := HJF.out.1.2.2.2.lt
      clear hkeep
      go_wp2_with (at_builtin; go_loud (refine wpList_append_own _ rfl _ _ 22 rfl (D + 1) 2 i0 (.int .i64 0) 1 8 Tryd.underlying22 hi hz0 hz1 hz2 rfl (by decide) _ _ _ rfl (ownk_keep HOF.out fun gg hb hlt => Below.heap_alloc _ _ _ hlt) ⟨wf.heap.size, 0, none⟩ 1 1 [.int .i64 x] rfl rfl (fun j u hu => by rw [add_plain, Nat.zero_add]; exact ((Blk.new wf 2 #[.int .i64 x]).cell j).trans (by simpa using hu)) (by simp [Value.oneCell']) (by unfold maxLen; omega) (by omega) (by simp; omega) ?_; intro v' w6 h2 h3 h4; clear h4; obtain ⟨A', c', rfl⟩ := own_formW h2; have H2 := Lib.hid h2; have H3 := Lib.hid h3; have hb6 : Below (D + 1) wf w6 := ((alloc_ wf _).mono (by omega)).grown h3 (by simp; omega) (fun r e => (HOF.out.lt r e).1); have HB6 := Lib.hid hb6; have HJ6 := Lib.hid (HJF.out.below HD.out hb6); have cD6 : w6.cell? ⟨D, 1, none⟩ = some v := HJ6.out.1.2.2.2.cell 1; have fD6 : w6.frozen? ⟨D, 1, none⟩ = false := HJ6.out.1.2.2.2.frozen 1; clear h2 h3 hb6))
      go_roundw
      case rel =>
        refine ⟨q + 1, _, by omega, by go_num, by rw [HSN.out]; exact HJ6.out.set1 HD.out _, ?_, ?_⟩
        · rw [HWN.out, ← ints_app1]
          exact ownk_keep H2.out fun gg hb hlt => Below.heap_setCell _ ⟨D, 1, none⟩ _ gg (by show gg ≠ D; omega)
        · rw [World.cell?_setCell_other _ _ _ _ (by have := HDA.out; first | (simp; done) | (simp; omega))]
          exact (HB6.out.cell (by show ad.block < D + 1; have := HDA.out; omega)).trans HKF.out
      case measure => simp [intOf]; omega
    · obtain rfl : q = N1 := by omega
      obtain ⟨AW, cW, rfl⟩ := own_formW HOW.out
      have HQ := Lib.hid (HGR.out wr HGJ.out.2 _ HST.out)
      rw [HO.out] at HQ
      have HWL := Lib.hid (wds_len l q s2)
      obtain ⟨st, hst⟩ : ∃ x, wst l q s2 = x := ⟨_, rfl⟩
      rw [hst] at HGJ HQ
      obtain ⟨nb1, hnb1⟩ : ∃ b, (!st.2) = b := ⟨_, rfl⟩
      unfold RrAns rdC at HQ
      rw [hnb1] at HQ
      have HR := Lib.hid (show Blk wr w.heap.size 43 #[.slice A n c, .int .i64 (st.1 : Int), .bool nb1] from by rw [← hnb1]; exact HGJ.out.1.1)
      obtain ⟨x0, x1, x2⟩ := blk_ce3 HR.out
      clear hst hnb1 HK
      go_wp2_with fail
      clear x0 x1 x2 k1
      refine HQ.out.mono ?_
      rintro e w2 ⟨t, A5, c5, rfl, h5, ht5, ha5, b5⟩
      have HA5 := Lib.hid (show ∀ ad, A5 = some ad → D < ad.block from fun ad e => by have := ha5 ad e; have := HGJ.out.1.2.2.2.lt; omega)
      clear ha5
      obtain ⟨nb2, hnb2⟩ : ∃ b, (!t.2) = b := ⟨_, rfl⟩
      rw [hnb2]
      have HB2 := Lib.hid hnb2
      have HRC := Lib.hid (show rdC A n c t = #[.slice A n c, .int .i64 (t.1 : Int), .bool nb2] from by rw [rdC_eq, hnb2])
      have HJ2 := Lib.hid (HGJ.out.up HD.out b5)
      have HR2 := Lib.hid (HR.out.below b5 HR.out.lt)
      have HO2 := Lib.hid (ownk_keep HOW.out fun gg hb hlt => b5.block gg hlt)
      have H5 := Lib.hid h5
      have HT5 := Lib.hid ht5
      obtain ⟨L, hL⟩ : ∃ L, (rrL o).length = L := ⟨_, rfl⟩
      obtain ⟨er, her⟩ : ∃ x, rrE o = x := ⟨_, rfl⟩
      have HL := Lib.hid hL
      have HER := Lib.hid her
      rw [hL, her]
      obtain ⟨f0, f1, f2⟩ := blk_fr3 HR2.out
      obtain ⟨x0, x1, x2⟩ := blk_ce3 HR2.out
      clear b5 h5 ht5 hnb2 hL her
      obtain ⟨wg, hwg⟩ : ∃ wg, ((w2.setCell ⟨w.heap.size, 0, none⟩ (.slice A n c)).setCell ⟨w.heap.size, 1, none⟩ (.int .i64 (t.1 : Int))).setCell ⟨w.heap.size, 2, none⟩ (.bool nb2) = wg := ⟨_, rfl⟩
      have HJG := Lib.hid (show GJ w A n c D kd t (.slice AW q cW) (.slice none 0 0) wg from by rw [← hwg]; exact HJ2.out.rd HD.out t nb2 HB2.out)
      have HKG := Lib.hid (show ∀ gg, gg ≠ w.heap.size → wg.heap[gg]? = w2.heap[gg]? from fun gg hne => by rw [← hwg]; exact heap_put3 w2 w.heap.size gg hne _ _ _)
      have HRG := Lib.hid (show Blk wg w.heap.size 43 #[.slice A n c, .int .i64 (t.1 : Int), .bool nb2] from by rw [← HRC.out]; exact HJG.out.1.1)
      have HOG := Lib.hid (ownk_keep HO2.out fun gg hb hlt => HKG.out gg (by have := HD.out; omega))
      have HSG := Lib.hid (show wg.heap.size = w2.heap.size from by rw [← hwg]; simp [World.setCell])
      obtain ⟨y0, y1, y2⟩ := blk_ce3 HRG.out
      obtain ⟨r0, r1, r2⟩ := blk_ce3 HJG.out.1.2.1
      obtain ⟨q0, q1, q2⟩ := blk_fr3 HJG.out.1.2.1
      obtain ⟨u0, u1, u2⟩ := blk_ce3 HJG.out.1.2.2.1
      obtain ⟨p0, p1, p2⟩ := blk_fr3 HJG.out.1.2.2.1
      by_cases he : er = 0
      · subst he
        have HF := Lib.hid (HGD.out.1 HER.out)
        obtain ⟨d0, d1, d2⟩ := blk_ce3 HJG.out.1.2.2.2
        obtain ⟨g0, g1, g2⟩ := blk_fr3 HJG.out.1.2.2.2
        have hne : ¬ w.heap.size = D := by have := HD.out; omega
        obtain ⟨wz, hwz⟩ : ∃ wz, wg.setCell ⟨D, 2, none⟩ (.slice A5 L c5) = wz := ⟨_, rfl⟩
        have HJZ := Lib.hid (show GJ w A n c D kd t (.slice AW q cW) (.slice A5 L c5) wz from by rw [← hwz]; exact HJG.out.set2 HD.out _)
        have HKZ := Lib.hid (show ∀ gg, gg ≠ D → wz.heap[gg]? = wg.heap[gg]? from fun gg hne => by rw [← hwz]; exact Below.heap_setCell _ ⟨D, 2, none⟩ _ gg hne)
        have HSZ := Lib.hid (show wz.heap.size = wg.heap.size from by rw [← hwz]; simp [World.setCell])
        go_wp2_with fail
        clear hwg hwz x0 x1 x2 f0 f1 f2 y0 y1 y2 r0 r1 r2 q0 q1 q2 u0 u1 u2 p0 p1 p2 d0 d1 d2 g0 g1 g2
        have HRZ := Lib.hid (show Blk wz w.heap.size 43 #[.slice A n c, .int .i64 (t.1 : Int), .bool nb2] from by rw [← HRC.out]; exact HJZ.out.1.1)
        obtain ⟨y0, y1, y2⟩ := blk_ce3 HRZ.out
        obtain ⟨r0, r1, r2⟩ := blk_ce3 HJZ.out.1.2.1
        obtain ⟨q0, q1, q2⟩ := blk_fr3 HJZ.out.1.2.1
        obtain ⟨u0, u1, u2⟩ := blk_ce3 HJZ.out.1.2.2.1
        obtain ⟨p0, p1, p2⟩ := blk_fr3 HJZ.out.1.2.2.1
        obtain ⟨d0, d1, d2⟩ := blk_ce3 HJZ.out.1.2.2.2
        have hDs : w.heap.size + 2 < D := HD.out
        go_region
        have HPZ := Lib.hid (HJZ.out.put (.slice A n c) (.int .i64 (t.1 : Int)) (.bool nb2) (.int .i64 kd) (.slice AW q cW) (.slice A5 L c5))
        go_wp2_with fail
        obtain ⟨z0, z1, z2⟩ := blk_ce3 HPZ.out.1
        obtain ⟨m0, m1, m2⟩ := blk_ce3 HPZ.out.2.1
        refine bodyPost_ret (v := .tuple #[.agg #[.slice A n c, .int .i64 (t.1 : Int), .bool nb2], .agg #[.int .i64 kd, .slice AW q cW, .slice A5 L c5], .int .i64 0]) (by simp [results, Tryd.results19, go_sem, z0, z1, z2, m0, m1, m2]) rfl ?_
        rw [HF.out]
        have hP1 := HPZ.out.2.2.1
        have hP2 := HPZ.out.2.2.2
        obtain ⟨X, hX⟩ : ∃ X, (((((wz.setCell ⟨w.heap.size + 1, 0, none⟩ (.slice A n c)).setCell ⟨w.heap.size + 1, 1, none⟩ (.int .i64 (t.1 : Int))).setCell ⟨w.heap.size + 1, 2, none⟩ (.bool nb2)).setCell ⟨w.heap.size + 1 + 1, 0, none⟩ (.int .i64 kd)).setCell ⟨w.heap.size + 1 + 1, 1, none⟩ (.slice AW q cW)).setCell ⟨w.heap.size + 1 + 1, 2, none⟩ (.slice A5 L c5) = X := ⟨_, rfl⟩
        rw [hX] at hP1 hP2
        refine ⟨t, AW, cW, A5, c5, ?_, ?_, ?_, fun _ => HT5.out HER.out, ?_⟩
        · show Ending.returned (.tuple #[.agg #[.slice A n c, .int .i64 (t.1 : Int), .bool nb2], .agg #[.int .i64 kd, .slice AW q cW, .slice A5 L c5], .int .i64 0]) = .returned (.tuple #[.agg (rdC A n c t), .agg #[.int .i64 kd, .slice AW (wds l q s2).length cW, .slice A5 (rrL o).length c5], .int .i64 0])
          rw [HRC.out, HWL.out, HL.out]
        · show IW _ (.slice AW (wds l q s2).length cW) (wds l q s2)
          rw [HWL.out, hX]
          exact SlV.of_own (ownk_keep (w' := X.drew) HOG.out fun gg hb hlt => (show X.heap[gg]? = _ from (hP2 gg (by omega) (by omega)).trans (HKZ.out gg (by omega))))
        · show RlL _ A5 (rrL o).length c5 (rrL o)
          rw [hX]
          refine H5.out.keepA (w' := X.drew) (fun ad e => ?_) (show w2.heap.size ≤ X.heap.size by have h1 := HSZ.out; have h2 := HSG.out; have h3 : X.heap.size = wz.heap.size := by rw [← hX]; simp [World.setCell]
                                                                                                  omega)
          have h9 := HA5.out ad e
          exact (show X.heap[ad.block]? = _ from (hP2 ad.block (by omega) (by omega)).trans ((HKZ.out ad.block (by omega)).trans (HKG.out ad.block (by omega))))
        · rw [hX]
          exact hP1.trans ⟨rfl, rfl, rfl, Nat.le_refl _, fun _ _ => rfl⟩
      · have hne : (er != 0) = true := by simpa using he
        have HF := Lib.hid (HGD.out.2 (by rw [HER.out]; exact he))
        have HE0 := Lib.hid he
        have HPZ := Lib.hid (HJG.out.put (.slice A n c) (.int .i64 (t.1 : Int)) (.bool nb2) (.int .i64 0) (.slice none 0 0) (.slice none 0 0))
        clear he
        go_wp2_with fail
        obtain ⟨z0, z1, z2⟩ := blk_ce3 HPZ.out.1
        obtain ⟨m0, m1, m2⟩ := blk_ce3 HPZ.out.2.1
        refine bodyPost_ret (v := .tuple #[.agg #[.slice A n c, .int .i64 (t.1 : Int), .bool nb2], .agg #[.int .i64 0, .slice none 0 0, .slice none 0 0], .int .i64 er]) (by simp [results, Tryd.results19, go_sem, z0, z1, z2, m0, m1, m2]) rfl ?_
        rw [HF.out.1, HER.out]
        exact ⟨t, none, 0, none, 0, by rw [HRC.out]; rfl, .nil, Wd.nil, fun e => absurd e HE0.out, HPZ.out.2.2.1⟩
end Go.Proofs.YthkbdclnnpcoiaaDoor.By
