/-
 Qf2 Qg2
-/
import Derived.Test.YtdaimeaofgbfpaaGreatZa2
import Derived.Test.YtdaimeaofgbfpaaGreatQd2
import Derived.Test.YtdaimeaofgbfpaaGreatQe2
import Derived.Laws.OwnMore
import Derived.Laws.AppendOwn
import Derived.Laws.AppendOwnNone
set_option linter.unusedSimpArgs false
set_option linter.unusedVariables false
namespace Go.Proofs.YtdaimeaofgbfpaaGreat.Bo
open Go.RowKit Go.Maps
open Mem Rf
def encOj (o : Oj) : List Value := [.slice o.A o.n o.c, .slice o.fA o.fn o.fc, .slice o.dA o.dn o.dc]
def oj0 : Oj := ⟨none, 0, 0, [], none, 0, 0, [], none, 0, 0, []⟩
def ojAt (l : List Oj) (i : Nat) : Oj := l.getD i oj0
theorem ojAt_some {l : List Oj} {i : Nat} (h : i < l.length) : l[i]? = some (ojAt l i) := by unfold ojAt; rw [List.getD_eq_getElem?_getD, List.getElem?_eq_getElem h]; rfl
structure OjsL (w : World) (A : Option Addr) (n c : Nat) (os : List Oj) : Prop where
 wd : Wd 3 encOj w w.heap.size A n c os
 each : ∀ i, i < n → OjL w (ojAt os i)
section
variable {w w' : World} {A : Option Addr} {n c : Nat} {os : List Oj}
theorem OjsL.on (h : OjsL w A n c os) (hb : Below w.heap.size w w') : OjsL w' A n c os := ⟨(h.wd.below hb).more hb.size, fun i hi => (h.each i hi).on hb⟩
theorem OjsL.at_ (h : OjsL w A n c os) {i : Nat} (hi : i < n) :
  ∃ ad, A = some ad ∧ ad.block < w.heap.size ∧ w.cell? (ad.add (i * 3)) = some (.slice (ojAt os i).A (ojAt os i).n (ojAt os i).c) ∧ w.cell? ⟨(ad.add (i * 3)).block, (ad.add (i * 3)).off + 1, none⟩ = some (.slice (ojAt os i).fA (ojAt os i).fn (ojAt os i).fc) ∧ w.cell? ⟨(ad.add (i * 3)).block, (ad.add (i * 3)).off + 2, none⟩ = some (.slice (ojAt os i).dA (ojAt os i).dn (ojAt os i).dc) := by
 obtain ⟨ad, e, hb, hc⟩ := h.wd.2.2.2.2 i _ (ojAt_some (by rw [h.wd.1]; exact hi))
 have h0 := hc 0 _ rfl
 have h1 := hc 1 _ rfl
 have h2 := hc 2 _ rfl
 rw [add_field _ 1 (by omega)] at h1
 rw [add_field _ 2 (by omega)] at h2
 exact ⟨ad, e, hb, h0, h1, h2⟩
def symsO (os : List Oj) : List (List Sy) := os.map (·.l)
theorem symsO_length (os : List Oj) : (symsO os).length = os.length := by simp [symsO]
theorem rowS_symsO {i : Nat} (h : i < os.length) : rowS (symsO os) i = (ojAt os i).l := by
 unfold rowS symsO ojAt
 rw [List.getD_eq_getElem?_getD, List.getElem?_map, List.getElem?_eq_getElem h, List.getD_eq_getElem?_getD, List.getElem?_eq_getElem h]; rfl
theorem fs_ofO (h : OjsL w A n c os) : Fs w w.heap.size A n c (symsO os) where
 len := by rw [symsO_length, h.wd.1]
 few := h.wd.few
 row := fun i hi => by
  obtain ⟨ad, e, hb, c0, c1, c2⟩ := h.at_ hi
  have hr : rowS (symsO os) i = (ojAt os i).l := rowS_symsO (by rw [h.wd.1]; exact hi)
  have hs := (h.each i hi).sy
  refine ⟨ad, _, _, _, _, _, _, _, _, _, e, hb, c0, c1, c2, by rw [hr, hs.1], hs.few, fun k hk => ?_⟩
  unfold atS
  rw [hr]
  exact hs.at_ hk
end
def offs (os : List Oj) (s : Int) : Nat → Nat
 | 0 => 0
 | i + 1 => offs os s i + mostO (ojAt os i).fn (ojAt os i).dn s
def numV (os : List Oj) (i k : Nat) : Int :=
 (atS (symsO os) (boundAt (symsO os) (i, k)).1.1 (boundAt (symsO os) (i, k)).1.2).2.2.2.2 + (offs os (atS (symsO os) (boundAt (symsO os) (i, k)).1.1 (boundAt (symsO os) (i, k)).1.2).2.2.1 (boundAt (symsO os) (i, k)).1.1 : Int)
theorem offs_few {os : List Oj} {n : Nat} (hf : ∀ i, i < n → (ojAt os i).fn ≤ 20 ∧ (ojAt os i).dn ≤ 20) (s : Int) : ∀ i, i ≤ n → offs os s i ≤ 20 * i
 | 0, _ => Nat.le_refl _
 | i + 1, h => by
  have h1 := offs_few hf s i (by omega)
  have h2 := hf i (by omega)
  show offs os s i + mostO (ojAt os i).fn (ojAt os i).dn s ≤ 20 * (i + 1)
  unfold mostO
  split <;> omega
theorem boundAt_in {L : List (List Sy)} {i k : Nat} (hi : i < L.length) (hk : k < (rowS L i).length) : (boundAt L (i, k)).2 = 0 → (boundAt L (i, k)).1.1 < L.length ∧ (boundAt L (i, k)).1.2 < (rowS L (boundAt L (i, k)).1.1).length := by
 intro h
 by_cases hd : (atS L i k).2.2.2.2 = -1
 ·cases hf : findV L (atS L i k).1 with
  | none => rw [boundAt_none (p := (i, k)) hd hf] at h; exact absurd h (by decide)
  | some q =>
   obtain ⟨a, b, _, _⟩ := findV_some hf
   by_cases hc : (atS L q.1 q.2).2.2.1 ≠ (atS L i k).2.2.1 ∨ (atS L q.1 q.2).2.2.2.1 ≠ (atS L i k).2.2.2.1
   ·rw [boundAt_class (p := (i, k)) hd hf hc] at h; exact absurd h (by decide)
   ·rw [boundAt_to (p := (i, k)) (q := q) hd hf (Decidable.not_not.1 fun x => hc (.inl x)) (Decidable.not_not.1 fun x => hc (.inr x))]
    exact ⟨a, b⟩
 ·rw [boundAt_own (p := (i, k)) hd]
  exact ⟨hi, hk⟩
set_option maxRecDepth 100000 in
set_option maxHeartbeats 4000000 in
theorem number_any (w : World) (A : Option Addr) (n c : Nat) (os : List Oj) (h : OjsL w A n c os) (hn : n ≤ 9) (hf : ∀ i, i < n → (ojAt os i).fn ≤ 20 ∧ (ojAt os i).dn ≤ 20) (i k : Nat) (hi : i < n) (hk : k < (ojAt os i).n) (hb : (boundAt (symsO os) (i, k)).2 = 0)
  (hd : -1000 ≤ (atS (symsO os) (boundAt (symsO os) (i, k)).1.1 (boundAt (symsO os) (i, k)).1.2).2.2.2.2 ∧ (atS (symsO os) (boundAt (symsO os) (i, k)).1.1 (boundAt (symsO os) (i, k)).1.2).2.2.2.2 ≤ 1000) :
  Calls Tryz.prog 42 #[.slice A n c, .int .i64 (i : Int), .int .i64 (k : Int)] w fun e w' => e = .returned (.int .i64 (numV os i k)) ∧ Below w.heap.size w w' := by
 have hlo : os.length = n := h.wd.1
 have hll : (symsO os).length = n := by rw [symsO_length, hlo]
 have hrl : (rowS (symsO os) i).length = (ojAt os i).n := by rw [rowS_symsO (by omega), (h.each i hi).sy.1]
 have hin := boundAt_in (L := symsO os) (i := i) (k := k) (by omega) (by omega) hb
 have HBD := Hd (fun W (hw : Below w.heap.size w W) => rbound_in A n c w.heap.size (symsO os) W ((fs_ofO h).below (Nat.le_refl _) hw) hw.size i k hi (by omega))
 have HAT := Hd (fun W (hw : Below w.heap.size w W) j (hj : j < n) => (h.on hw).at_ hj)
 have HSY := Hd (fun W (hw : Below w.heap.size w W) j (hj : j < n) m (hm : m < (ojAt os j).n) => ((h.on hw).each j hj).sy.at_ hm)
 have HOF := Hd (fun s j (hj : j ≤ n) => offs_few hf s j hj)
 have HFW := Hd hf
 unfold numV
 obtain ⟨⟨⟨qa, qb⟩, qe⟩, hq⟩ : ∃ q, boundAt (symsO os) (i, k) = q := ⟨_, rfl⟩
 rw [hq] at HBD hb hd hin ⊢
 dsimp only at HBD hb hd hin ⊢
 subst hb
 unfold boundE at HBD
 dsimp only at HBD
 have hqa : qa < n := by omega
 have hqb : qb < (ojAt os qa).n := by
  have h2 := hin.2
  rw [rowS_symsO (by omega), (h.each qa hqa).sy.1] at h2
  exact h2
 have hat : atS (symsO os) qa qb = syAt (ojAt os qa).l qb := by unfold atS; rw [rowS_symsO (by omega)]
 rw [hat] at hd ⊢
 have HS1 := Hd (fun W (hw : Below w.heap.size w W) => HSY.out W hw qa hqa qb hqb)
 have HA1 := Hd (fun W (hw : Below w.heap.size w W) => HAT.out W hw qa hqa)
 obtain ⟨⟨y0, y1, y2, y3, y4⟩, hy⟩ : ∃ y, syAt (ojAt os qa).l qb = y := ⟨_, rfl⟩
 rw [hy] at HS1 hd ⊢
 dsimp only at HS1 hd ⊢
 obtain ⟨⟨oA, on, oc, ol, fA, fn, fc, fl, dA, dn, dc, dl⟩, ho⟩ : ∃ o, ojAt os qa = o := ⟨_, rfl⟩
 rw [ho] at HS1 HA1 hqb
 dsimp only at HS1 HA1 hqb
 obtain ⟨ad, rfl, -⟩ := HA1.out w (Below.refl _ _)
 obtain ⟨sa, rfl, -⟩ := HS1.out w (Below.refl _ _)
 have hqa0 : (0 : Int) ≤ (qa : Int) := by omega
 have hqa1 : (qa : Int) < (n : Int) := by omega
 have hqb0 : (0 : Int) ≤ (qb : Int) := by omega
 have hqb1 : (qb : Int) < (on : Int) := by omega
 clear h hlo hll hrl hin hq hat hy ho hf hi hk HSY
 go_enter Tryz.func42, Tryz.ntmps42
 go_wp2_with (go_at_call 76; refine (HBD.out _ (Below.refl _ _)).mono ?_; rintro e w2 ⟨rfl, b2⟩; obtain ⟨ae, ee, hz1, a0, a1, a2⟩ := HA1.out w2 b2; obtain rfl := Option.some.inj ee; clear ee; obtain ⟨se, es, hz2, s0, s1, s2, s3, s4⟩ := HS1.out w2 b2; obtain rfl := Option.some.inj es; clear es; have HB2 := Hd b2; clear b2)
 clear a0 a1 a2 s0 s1 s2 s3 s4 hz1 hz2
 obtain ⟨W0, hW0⟩ : ∃ W0, w2.alloc (.cells #[.string y0, .bool y1, .int .i64 y2, .int .i64 y3, .int .i64 y4] 79) = W0 := ⟨_, rfl⟩
 have HW0 := Hd (show Below w2.heap.size w2 W0 from by rw [← hW0]; exact alloc_ _ _)
 have hbk : Blk W0 w2.heap.size 79 #[.string y0, .bool y1, .int .i64 y2, .int .i64 y3, .int .i64 y4] := by rw [← hW0]; exact Blk.new _ _ _
 have HX := Hd (fun W (hw : Below W0.heap.size W0 W) => (hbk.below hw hbk.lt).cell 2)
 rw [hW0]
 clear hW0 hbk
 go_loopw [11, 12] (fun v9 i9 wr => ∃ j : Nat, j ≤ qa ∧ i9 = .int .i64 (j : Int) ∧ v9 = .int .i64 (y4 + (offs os y2 j : Int)) ∧ Hid (Below W0.heap.size W0 wr)) (fun _ i9 _ => qa - (intOf i9).toNat)
 case atStart => exact ⟨0, Nat.zero_le _, rfl, by show _ = Value.int .i64 (y4 + ((0 : Nat) : Int)); simp, Hd (Below.refl _ _)⟩
 case round =>
  obtain ⟨j, hj, rfl, rfl, HBE⟩ := hrel
  have x2 : wr.cell? ⟨w2.heap.size, 2, none⟩ = some (.int .i64 y2) := HX.out wr HBE.out
  by_cases hlt : j < qa
  ·have hjI : (j : Int) < (qa : Int) := by omega
   have hjn : (j : Int) < (n : Int) := by omega
   have hj0 : (0 : Int) ≤ (j : Int) := by omega
   have h1 := HOF.out y2 j (by omega)
   have h2 := HFW.out j (by omega)
   have hs1 : offs os y2 (j + 1) = offs os y2 j + mostO (ojAt os j).fn (ojAt os j).dn y2 := rfl
   obtain ⟨a9, e9, _, a0, a1, a2⟩ := HAT.out wr (to_ HB2.out (to_ HW0.out HBE.out)) j (by omega)
   obtain rfl := Option.some.inj e9
   clear e9
   obtain ⟨⟨oA9, on9, oc9, ol9, fA9, fn9, fc9, fl9, dA9, dn9, dc9, dl9⟩, ho9⟩ : ∃ o, ojAt os j = o := ⟨_, rfl⟩
   rw [ho9] at a0 a1 a2 h2 hs1
   dsimp only at a0 a1 a2 h2 hs1
   generalize offs os y2 j = f9 at *
   by_cases k1 : y2 = 1
   focus
    have k1' : (y2 == 1) = true := by simp [k1]
    unfold mostO at hs1
    rw [if_pos k1] at hs1
   rotate_left
   focus
    have k1' : (y2 == 1) = false := by simp [k1]
    unfold mostO at hs1
    rw [if_neg k1] at hs1
   rotate_left
   all_goals
    have HR := Hd hs1
    clear k1 hs1 ho9
    go_wp2_with fail
    go_roundw
    case rel => exact ⟨j + 1, by omega, by go_num, by rw [HR.out]; go_num, HBE⟩
    case measure => simp [intOf]; omega
  ·obtain rfl : j = qa := by omega
   go_wp2_with fail
   go_ret
   exact ⟨rfl, to_ HB2.out (to_ HW0.out HBE.out)⟩
/-! ### numbers of symbols' places -/
def encI (z : Int) : List Value := [.int .i64 z]
theorem encI_len (z : Int) : (encI z).length = 1 := rfl
def IL (w : World) (A : Option Addr) (n c : Nat) (l : List Int) : Prop := Wd 1 encI w w.heap.size A n c l
theorem IL.on {w w' : World} {A : Option Addr} {n c : Nat} {l : List Int} (h : IL w A n c l) (hb : Below w.heap.size w w') : IL w' A n c l := (Wd.below h hb).more hb.size
theorem IL.at_ {w : World} {A : Option Addr} {n c : Nat} {l : List Int} (h : IL w A n c l) {i : Nat} (hi : i < n) : ∃ ad, A = some ad ∧ ad.block < w.heap.size ∧ w.cell? (ad.add i) = some (.int .i64 (l.getD i 0)) := by
 have hl : i < l.length := by rw [h.1]; exact hi
 obtain ⟨ad, e, hb, hc⟩ := h.2.2.2.2 i (l.getD i 0) (by rw [List.getD_eq_getElem?_getD, List.getElem?_eq_getElem hl]; rfl)
 have := hc 0 _ rfl
 rw [Nat.mul_one] at this
 exact ⟨ad, e, hb, by rw [show (ad.add i).add 0 = ad.add i from by unfold Addr.add; simp] at this; exact this⟩
def bV (os : List Oj) (i : Nat) (zs : List Int) : List Int := zs.map fun z => if 0 ≤ z then numV os i z.toNat else -1
theorem take_next {α : Type} {l : List α} {k : Nat} {d : α} (h : k < l.length) : l.take (k + 1) = l.take k ++ [l.getD k d] := by
 rw [List.take_succ_eq_append_getElem h, List.getD_eq_getElem?_getD, List.getElem?_eq_getElem h]; rfl
theorem infoInt : (Tryz.prog.info? 3).map (fun i => (i.zero, i.size, i.bytes)) = some (some (.int .i64 0), 1, 8) := by kernel_rfl
theorem one_new (W : World) (x : Value) (t : TypeId) : ∀ j u, [x][j]? = some u → (W.alloc (.cells #[x] t)).cell? ((⟨W.heap.size, 0, none⟩ : Addr).add j) = some u := fun j u hu => by
 obtain rfl : j = 0 := by have := (List.getElem?_eq_some_iff.1 hu).1; simpa using this
 rw [← hu]
 exact (Blk.new W t #[x]).cell 0
set_option maxRecDepth 100000 in
set_option maxHeartbeats 4000000 in
theorem bound_any (w : World) (A Ai : Option Addr) (n c m ci : Nat) (os : List Oj) (i : Nat) (zs : List Int) (hz : IL w Ai m ci zs) (hm : m ≤ 5000) (hok : ∀ z ∈ zs, z < 0 ∨ (0 ≤ z ∧ z.toNat < (ojAt os i).n))
  (hnum : ∀ W, Below w.heap.size w W → ∀ k, k < (ojAt os i).n → Calls Tryz.prog 42 #[.slice A n c, .int .i64 (i : Int), .int .i64 (k : Int)] W fun e w' => e = .returned (.int .i64 (numV os i k)) ∧ Below W.heap.size W w') :
  Calls Tryz.prog 80 #[.slice A n c, .int .i64 (i : Int), .slice Ai m ci] w fun e w' => ∃ v, e = .returned v ∧ w'.ownsRow w.heap.size 3 1 v m ((bV os i zs).flatMap encI) ∧ Below w.heap.size w w' := by
 obtain ⟨i0, hi0, hz0, hz1, hz2⟩ := info_split infoInt
 have hl : zs.length = m := hz.1
 have HZ := Hd (fun W (hb : Below w.heap.size w W) k (hk : k < m) => (hz.on hb).at_ hk)
 have HOK := Hd (fun k (hk : k < m) => hok (zs.getD k 0) (by rw [List.getD_eq_getElem?_getD, List.getElem?_eq_getElem (by omega)]; exact List.getElem_mem _))
 have HNM := Hd hnum
 have HTK := Hd (fun k (hk : k < m) => show (bV os i (zs.take (k + 1))).flatMap encI = (bV os i (zs.take k)).flatMap encI ++ [.int .i64 (if 0 ≤ zs.getD k 0 then numV os i (zs.getD k 0).toNat else -1)] from by
  rw [take_next (d := 0) (by omega)]; unfold bV; rw [List.map_append, List.flatMap_append]; rfl)
 have HAL := Hd (show zs.take m = zs from by rw [← hl, List.take_length])
 clear hz hok hnum hl
 go_enter Tryz.func80, Tryz.ntmps80
 go_wp2_with fail
 go_loopw [7, 8] (fun v9 i9 wr => ∃ k : Nat, k ≤ m ∧ i9 = .int .i64 (k : Int) ∧ Hid (wr.ownsRow w.heap.size 3 1 v9 k ((bV os i (zs.take k)).flatMap encI)) ∧ Hid (Below w.heap.size w wr)) (fun _ i9 _ => m - (intOf i9).toNat)
 case atStart => exact ⟨0, Nat.zero_le _, rfl, Hd (World.ownsRow_nil _ _ _ _), Hd (Below.refl _ _)⟩
 case round =>
  obtain ⟨k, hk, rfl, HOW, HBE⟩ := hrel
  by_cases hlt : k < m
  ·have hkI : (k : Int) < (m : Int) := by omega
   have hk0 : (0 : Int) ≤ (k : Int) := by omega
   obtain ⟨ad, rfl, hzb, z0⟩ := HZ.out wr HBE.out k hlt
   have HT := Hd (HTK.out k hlt)
   have hor := HOK.out k hlt
   obtain ⟨z, hz⟩ : ∃ z, zs.getD k 0 = z := ⟨_, rfl⟩
   rw [hz] at z0 HT hor
   clear hz
   by_cases hz : 0 ≤ z
   ·rw [if_pos hz] at HT
    obtain ⟨zn, rfl⟩ : ∃ zn : Nat, z = (zn : Int) := ⟨z.toNat, by omega⟩
    rw [Int.toNat_natCast] at HT hor
    have HC := Hd (fun W hw => HNM.out W hw zn (by omega))
    generalize numV os i zn = nv at HT HC
    clear hor
    go_wp2_with (go_at_call 42; refine (HC.out _ HBE.out).mono ?_; rintro e w3 ⟨rfl, b3⟩; have HB3 := Hd b3; clear b3; go_wp2_with (at_builtin; go_loud (refine wpList_append_own _ rfl _ _ 44 rfl w.heap.size 3 i0 (.int .i64 0) 1 8 Tryz.underlying44 hi0 hz0 hz1 hz2 rfl (by decide) _ _ _ rfl (own_keep1 HOW.out fun gg _ hgl _ => (to_ HB3.out (alloc_ _ _)).block gg hgl) ⟨w3.heap.size, 0, none⟩ 1 1 [.int .i64 nv] rfl rfl (one_new w3 _ 3) (by simp [Value.oneCell']) (by unfold maxLen; omega) (by omega) (by have := HBE.out.size; have := HB3.out.size; simp; omega) ?_; intro v' w' h2 h3 _; have H2 := Hd h2; have H3 := Hd h3; clear h2 h3)))
    go_roundw
    case rel => exact ⟨k + 1, by omega, by go_num, Hd (by rw [HT.out]; exact H2.out), Hd (((to_ HBE.out (to_ HB3.out (alloc_ _ _)))).grown H3.out (to_ HBE.out (to_ HB3.out (alloc_ _ _))).size fun r e => (HOW.out.lt r e).1)⟩
    case measure => simp [intOf]; omega
   ·rw [if_neg hz] at HT
    clear hor
    go_wp2_with (at_builtin; go_loud (refine wpList_append_own _ rfl _ _ 44 rfl w.heap.size 3 i0 (.int .i64 0) 1 8 Tryz.underlying44 hi0 hz0 hz1 hz2 rfl (by decide) _ _ _ rfl (own_keep1 HOW.out fun gg _ hgl _ => (alloc_ _ _).block gg hgl) ⟨wr.heap.size, 0, none⟩ 1 1 [.int .i64 (-1)] rfl rfl (one_new wr _ 3) (by simp [Value.oneCell']) (by unfold maxLen; omega) (by omega) (by have := HBE.out.size; simp; omega) ?_; intro v' w' h2 h3 _; have H2 := Hd h2; have H3 := Hd h3; clear h2 h3))
    go_roundw
    case rel => exact ⟨k + 1, by omega, by go_num, Hd (by rw [HT.out]; exact H2.out), Hd ((to_ HBE.out (alloc_ _ _)).grown H3.out (to_ HBE.out (alloc_ _ _)).size fun r e => (HOW.out.lt r e).1)⟩
    case measure => simp [intOf]; omega
  ·obtain rfl : k = m := by omega
   have HO := Hd (show wr.ownsRow w.heap.size 3 1 u7 k ((bV os i zs).flatMap encI) from by have := HOW.out; rw [HAL.out] at this; exact this)
   go_wp2_with fail
   go_ret
   exact ⟨_, rfl, HO.out, HBE.out⟩
structure Gf where
 file : Nat
 item : Nat
 nm : ByteArray
 F : Fc
 R : Sl3
 refs : List Int
structure Gd where
 file : Nat
 item : Nat
 nm : ByteArray
 D : Dc
 R : Sl3
 refs : List Int
def encGf (g : Gf) : List Value := [.int .i64 (g.file : Int), .int .i64 (g.item : Int), .string g.nm, .int .i64 g.F.cl, slV g.F.kinds, .int .i64 g.F.pad, .bool g.F.no, .int .i64 g.F.f, .int .i64 g.F.t, slV g.F.lines, slV g.F.code, slV g.F.rel, slV g.R]
def encGd (g : Gd) : List Value := [.int .i64 (g.file : Int), .int .i64 (g.item : Int), .string g.nm, .int .i64 g.D.kd, slV g.D.words, slV g.D.rel, slV g.R]
theorem encGf_len (g : Gf) : (encGf g).length = 13 := rfl
theorem encGd_len (g : Gd) : (encGd g).length = 7 := rfl
def apart (R R' : Sl3) : Prop := ∀ b, (slV R).ownBlock = some b → (slV R').ownBlock ≠ some b
theorem apart.symm {R R' : Sl3} (h : apart R R') : apart R' R := fun b h1 h2 => h b h2 h1
structure PgI (w0 w : World) (fs : List Gf) (ds : List Gd) (v1 v2 : Value) : Prop where
 low : Below w0.heap.size w0 w
 res : Blk w w0.heap.size 29 #[.slice none 0 0, .slice none 0 0, .int .i64 0]
 box : Blk w (w0.heap.size + 1) 29 #[v1, v2, .int .i64 0]
 fr : w.ownsRow (w0.heap.size + 2) 51 13 v1 fs.length (fs.flatMap encGf)
 dr : w.ownsRow (w0.heap.size + 2) 86 7 v2 ds.length (ds.flatMap encGd)
 fref : ∀ g ∈ fs, w.ownsRow (w0.heap.size + 2) 3 1 (slV g.R) g.refs.length (g.refs.flatMap encI)
 dref : ∀ g ∈ ds, w.ownsRow (w0.heap.size + 2) 3 1 (slV g.R) g.refs.length (g.refs.flatMap encI)
 apF : fs.Pairwise fun g g' => apart g.R g'.R
 apD : ds.Pairwise fun g g' => apart g.R g'.R
 apX : ∀ g ∈ fs, ∀ d ∈ ds, apart g.R d.R
section
variable {w0 w w' : World} {fs : List Gf} {ds : List Gd} {v1 v2 : Value}
theorem own_on {base n k : Nat} {E : TypeId} {v : Value} {xs : List Value} (h : w.ownsRow base E k v n xs) (hb : Below w.heap.size w w') : w'.ownsRow base E k v n xs := own_keep1 h fun g _ hg _ => hb.block g hg
theorem PgI.later (h : PgI w0 w fs ds v1 v2) (hb : Below w.heap.size w w') : PgI w0 w' fs ds v1 v2 where
 low := to_ h.low hb
 res := h.res.below hb h.res.lt
 box := h.box.below hb h.box.lt
 fr := own_on h.fr hb
 dr := own_on h.dr hb
 fref := fun g hg => own_on (h.fref g hg) hb
 dref := fun g hg => own_on (h.dref g hg) hb
 apF := h.apF
 apD := h.apD
 apX := h.apX
theorem PgI.fresh (h : PgI w0 w fs ds v1 v2) {w' : World} {R : Sl3} {n : Nat} {xs : List Value} (hr : w'.ownsRow w.heap.size 3 1 (slV R) n xs) : (∀ g ∈ fs, apart g.R R) ∧ ∀ d ∈ ds, apart d.R R :=
 ⟨fun g hg b h1 h2 => by have := ((h.fref g hg).lt b h1).2; have := (hr.lt b h2).1; omega, fun g hg b h1 h2 => by have := ((h.dref g hg).lt b h1).2; have := (hr.lt b h2).1; omega⟩
theorem own_lower {B B' n k : Nat} {E : TypeId} {v : Value} {xs : List Value} (h : w.ownsRow B E k v n xs) (hB : B' ≤ B) : w.ownsRow B' E k v n xs := by
 obtain ⟨h1, h2⟩ := h
 refine ⟨h1, ?_⟩
 rcases h2 with h2 | ⟨g, cap, cur, hv, hb, r⟩
 ·exact .inl h2
 ·exact .inr ⟨g, cap, cur, hv, by omega, r⟩
theorem own_apart {B B' n n' k k' : Nat} {E E' : TypeId} {v u : Value} {xs ys : List Value} (h : w.ownsRow B E k v n xs) (h' : w.ownsRow B' E' k' u n' ys) (hE : E ≠ E') (hg : w.grownBy w' u.ownBlock) : w'.ownsRow B E k v n xs := by
 refine h.kept hg ?_
 rcases h.2 with ⟨rfl, _⟩ | ⟨g, cap, cur, rfl, _, hh, _⟩
 ·exact .inl rfl
 ·refine .inr fun e => ?_
  rcases h'.2 with ⟨rfl, _⟩ | ⟨g', cap', cur', rfl, _, hh', _⟩
  ·cases e
  ·have e2 : g = g' := by simpa [Value.ownBlock] using e
   subst e2
   rw [hh] at hh'
   injection hh' with hh'
   injection hh' with _ e3 _
   exact hE e3
theorem own_cell {B n k : Nat} {E : TypeId} {v : Value} {xs : List Value} (h : w.ownsRow B E k v n xs) (p : Addr) (x : Value) (hp : p.block < B) : (w.setCell p x).ownsRow B E k v n xs := own_keep1 h fun g hg _ _ => Below.heap_setCell _ p _ g (by omega)
theorem blk_grown {b : Nat} {t : TypeId} {vs : Array Value} (h : Blk w b t vs) {row : Option Nat} (hg : w.grownBy w' row) (hr : row ≠ some b) : Blk w' b t vs := (hg.block b h.lt (fun e => hr e.symm)).trans h
theorem own_ne {B n k : Nat} {E : TypeId} {v : Value} {xs : List Value} (h : w.ownsRow B E k v n xs) {b : Nat} (hb : b < B) : v.ownBlock ≠ some b := fun e => by
 have := (h.lt b e).1
 omega
theorem PgI.addF (h : PgI w0 w fs ds v1 v2) (g : Gf) (hr : w.ownsRow (w0.heap.size + 2) 3 1 (slV g.R) g.refs.length (g.refs.flatMap encI)) (hz : (∀ g' ∈ fs, apart g'.R g.R) ∧ ∀ d ∈ ds, apart d.R g.R) (o : Obj) {v' : Value} {w6 : World} (h2 : w6.ownsRow (w0.heap.size + 2) 51 13 v' (fs.length + 1) (fs.flatMap encGf ++ encGf g)) (h3 : (w.alloc o).grownBy w6 v1.ownBlock) :
  PgI w0 (w6.setCell ⟨w0.heap.size + 1, 0, none⟩ v') (fs ++ [g]) ds v' v2 := by
 have hA := h.later (alloc_ w o)
 have hr' := own_on hr (alloc_ w o)
 have hre : (fs ++ [g]).flatMap encGf = fs.flatMap encGf ++ encGf g := by rw [List.flatMap_append]; simp
 refine ⟨?_, ?_, ?_, ?_, ?_, ?_, ?_, List.pairwise_append.2 ⟨h.apF, List.pairwise_singleton _ _, fun a ha b hb => by obtain rfl := List.mem_singleton.1 hb; exact hz.1 a ha⟩, h.apD, fun a ha d hd => (List.mem_append.1 ha).elim (fun ha => h.apX a ha d hd) (fun ha => by obtain rfl := List.mem_singleton.1 ha; exact (hz.2 d hd).symm)⟩
 ·exact (hA.low.grown h3 hA.low.size (fun k e => by have := (hA.fr.lt k e).1; omega)).setCell (p := ⟨w0.heap.size + 1, 0, none⟩) (by show w0.heap.size ≤ w0.heap.size + 1; omega) _
 ·exact (Below.heap_setCell _ ⟨w0.heap.size + 1, 0, none⟩ _ _ (by show w0.heap.size ≠ w0.heap.size + 1; omega)).trans (blk_grown hA.res h3 (own_ne hA.fr (by omega)))
 ·exact (blk_grown hA.box h3 (own_ne hA.fr (by omega))).stored 0 v'
 ·rw [hre, List.length_append]
  exact own_cell h2 _ _ (by show w0.heap.size + 1 < w0.heap.size + 2; omega)
 ·exact own_cell (own_apart hA.dr hA.fr (by decide) h3) _ _ (by show w0.heap.size + 1 < w0.heap.size + 2; omega)
 ·intro x hx
  rcases List.mem_append.1 hx with hx | hx
  ·exact own_cell (own_apart (hA.fref x hx) hA.fr (by decide) h3) _ _ (by show w0.heap.size + 1 < w0.heap.size + 2; omega)
  ·obtain rfl := List.mem_singleton.1 hx
   exact own_cell (own_apart hr' hA.fr (by decide) h3) _ _ (by show w0.heap.size + 1 < w0.heap.size + 2; omega)
 ·intro x hx
  exact own_cell (own_apart (hA.dref x hx) hA.fr (by decide) h3) _ _ (by show w0.heap.size + 1 < w0.heap.size + 2; omega)
theorem PgI.addD (h : PgI w0 w fs ds v1 v2) (g : Gd) (hr : w.ownsRow (w0.heap.size + 2) 3 1 (slV g.R) g.refs.length (g.refs.flatMap encI)) (hz : (∀ g' ∈ fs, apart g'.R g.R) ∧ ∀ d ∈ ds, apart d.R g.R) (o : Obj) {v' : Value} {w6 : World} (h2 : w6.ownsRow (w0.heap.size + 2) 86 7 v' (ds.length + 1) (ds.flatMap encGd ++ encGd g)) (h3 : (w.alloc o).grownBy w6 v2.ownBlock) :
  PgI w0 (w6.setCell ⟨w0.heap.size + 1, 1, none⟩ v') fs (ds ++ [g]) v1 v' := by
 have hA := h.later (alloc_ w o)
 have hr' := own_on hr (alloc_ w o)
 have hre : (ds ++ [g]).flatMap encGd = ds.flatMap encGd ++ encGd g := by rw [List.flatMap_append]; simp
 refine ⟨?_, ?_, ?_, ?_, ?_, ?_, ?_, h.apF, List.pairwise_append.2 ⟨h.apD, List.pairwise_singleton _ _, fun a ha b hb => by obtain rfl := List.mem_singleton.1 hb; exact hz.2 a ha⟩, fun a ha d hd => (List.mem_append.1 hd).elim (fun hd => h.apX a ha d hd) (fun hd => by obtain rfl := List.mem_singleton.1 hd; exact hz.1 a ha)⟩
 ·exact (hA.low.grown h3 hA.low.size (fun k e => by have := (hA.dr.lt k e).1; omega)).setCell (p := ⟨w0.heap.size + 1, 1, none⟩) (by show w0.heap.size ≤ w0.heap.size + 1; omega) _
 ·exact (Below.heap_setCell _ ⟨w0.heap.size + 1, 1, none⟩ _ _ (by show w0.heap.size ≠ w0.heap.size + 1; omega)).trans (blk_grown hA.res h3 (own_ne hA.dr (by omega)))
 ·exact (blk_grown hA.box h3 (own_ne hA.dr (by omega))).stored 1 v'
 ·exact own_cell (own_apart hA.fr hA.dr (by decide) h3) _ _ (by show w0.heap.size + 1 < w0.heap.size + 2; omega)
 ·rw [hre, List.length_append]
  exact own_cell h2 _ _ (by show w0.heap.size + 1 < w0.heap.size + 2; omega)
 ·intro x hx
  exact own_cell (own_apart (hA.fref x hx) hA.dr (by decide) h3) _ _ (by show w0.heap.size + 1 < w0.heap.size + 2; omega)
 ·intro x hx
  rcases List.mem_append.1 hx with hx | hx
  ·exact own_cell (own_apart (hA.dref x hx) hA.dr (by decide) h3) _ _ (by show w0.heap.size + 1 < w0.heap.size + 2; omega)
  ·obtain rfl := List.mem_singleton.1 hx
   exact own_cell (own_apart hr' hA.dr (by decide) h3) _ _ (by show w0.heap.size + 1 < w0.heap.size + 2; omega)
end
set_option maxRecDepth 100000 in
set_option maxHeartbeats 4000000 in
theorem name_any (w : World) (o : Oj) (h : OjL w o) (hf : o.n ≤ 1000 ∧ o.fn ≤ 1000 ∧ o.dn ≤ 1000) (i : Nat) (hi : i < o.fn + o.dn) (k : Nat) (hd : dfr o.l o.fn i = some k) :
  Calls Tryz.prog 79 #[ojV o, .int .i64 (i : Int)] w fun e w' => e = .returned (.string (syAt o.l k).1) ∧ Below w.heap.size w w' := by
 have HD := Hd (fun W (hb : Below w.heap.size w W) => ddefiner W o (h.on hb) hf i hi)
 have hk : k < o.n := by have := (dfr_some hd).1; rw [h.sy.1] at this; exact this
 rw [hd] at HD
 unfold ixV at HD
 dsimp only at HD
 obtain ⟨ad, ea, _, s0, -⟩ := h.sy.at_ hk
 have hz := World.block_lt_of_cell? w _ s0
 have hk0 : (0 : Int) ≤ (k : Int) := by omega
 have hk1 : (k : Int) < (o.n : Int) := by omega
 clear h hd hk
 obtain ⟨A, n, c, l, fA, fn, fc, fl, dA, dn, dc, dl⟩ := o
 unfold ojV at HD ⊢
 dsimp only at HD ea s0 hk1 ⊢
 subst ea
 obtain ⟨y0, hy⟩ : ∃ y, (syAt l k).1 = y := ⟨_, rfl⟩
 rw [hy] at s0 ⊢
 clear hy
 have HB1 := Hd (alloc_ w (.cells #[.slice (some ad) n c, .slice fA fn fc, .slice dA dn dc] 71))
 obtain ⟨-, c0, c1, c2⟩ := bx3 (w := w) (t := 71) (a := .slice (some ad) n c) (b := .slice fA fn fc) (c := .slice dA dn dc) (Below.refl _ _)
 replace s0 := cell_on s0 HB1.out
 go_enter Tryz.func79, Tryz.ntmps79
 go_wp2_with fail
 refine wp_region_noPanic ?_
 refine wp_region_held_drew (S := fun W => W.cell? ⟨w.heap.size, 0, none⟩ = some (.slice (some ad) n c) ∧ W.cell? ⟨w.heap.size, 1, none⟩ = some (.slice fA fn fc) ∧ W.cell? ⟨w.heap.size, 2, none⟩ = some (.slice dA dn dc) ∧ W.cell? (ad.add (k * 5)) = some (.string y0) ∧ Below w.heap.size w W) (by kernel_rfl) (⟨c0, c1, c2, s0, HB1.out.drew⟩) (fun hHeld => ?_)
 refine tk4Z 0 1 2 3 hHeld ?_
 refine rd1Z 4 (fun K hK => ?_)
 go_simp
 refine (HD.out _ hHeld.2.2.2.2).mono ?_
 rintro e w3 ⟨rfl, b3⟩
 try go_wp2_with fail
 refine hK.out _ _ (⟨cell_on hHeld.1 b3, cell_on hHeld.2.1 b3, cell_on hHeld.2.2.1 b3, cell_on hHeld.2.2.2.1 b3, to_ hHeld.2.2.2.2 b3⟩) ?_
 clear hK K hHeld
 intro hHeld
 try simp only [Act.put, nmZ]
 refine tk4Z 5 6 7 8 hHeld ?_
 refine wpAnyH_done (by kernel_rfl) ?_ _
 refine NoPanic.normal ?_
 go_wp2_with fail
 go_ret
 exact ⟨rfl, hHeld.2.2.2.2⟩
end Go.Proofs.YtdaimeaofgbfpaaGreat.Bo
