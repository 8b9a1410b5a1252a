/-
  FILES IN MEMORY. WALKS of layer 24's document: number, bound.
-/
import Derived.Test.YtbcabomblfehlabQd
import Derived.Test.YtbcabomblfehlabQe
import Derived.Laws.OwnMore
import Derived.Laws.AppendOwn
import Derived.Laws.AppendOwnNone
namespace Go.Proofs.Ytbcabomblfehlab.Bo
open Go.RowKit Go.Maps
open Mem Rf
set_option linter.unusedSimpArgs false
set_option linter.unusedVariables false

def encOj (o : Oj) : List Value := [.slice o.A o.n o.c, .slice o.fA o.fn o.fc, .slice o.dA o.dn o.dc]
def oj0 : Oj := ⟨none, 0, 0, [], none, 0, 0, [], none, 0, 0, []⟩
def ojAt (l : List Oj) (i : Nat) : Oj := l.getD i oj0
theorem ojAt_some {l : List Oj} {i : Nat} (h : i < l.length) : l[i]? = some (ojAt l i) := by unfold ojAt; rw [List.getD_eq_getElem?_getD, List.getElem?_eq_getElem h]; rfl
/-- Files as they lie. -/
structure OjsL (w : World) (A : Option Addr) (n c : Nat) (os : List Oj) : Prop where
  wd : Wd 3 encOj w w.heap.size A n c os
  each : ∀ i, i < n → OjL w (ojAt os i)
section
variable {w w' : World} {A : Option Addr} {n c : Nat} {os : List Oj}
theorem OjsL.on (h : OjsL w A n c os) (hb : Below w.heap.size w w') : OjsL w' A n c os := ⟨(h.wd.below hb).more hb.size, fun i hi => (h.each i hi).on hb⟩
theorem OjsL.at_ (h : OjsL w A n c os) {i : Nat} (hi : i < n) :
    ∃ ad, A = some ad ∧ ad.block < w.heap.size ∧ w.cell? (ad.add (i * 3)) = some (.slice (ojAt os i).A (ojAt os i).n (ojAt os i).c) ∧ w.cell? ⟨(ad.add (i * 3)).block, (ad.add (i * 3)).off + 1, none⟩ = some (.slice (ojAt os i).fA (ojAt os i).fn (ojAt os i).fc) ∧ w.cell? ⟨(ad.add (i * 3)).block, (ad.add (i * 3)).off + 2, none⟩ = some (.slice (ojAt os i).dA (ojAt os i).dn (ojAt os i).dc) := by
  obtain ⟨ad, e, hb, hc⟩ := h.wd.2.2.2.2 i _ (ojAt_some (by rw [h.wd.1]; exact hi))
  have h0 := hc 0 _ rfl
  have h1 := hc 1 _ rfl
  have h2 := hc 2 _ rfl
  rw [add_field _ 1 (by omega)] at h1
  rw [add_field _ 2 (by omega)] at h2
  exact ⟨ad, e, hb, h0, h1, h2⟩
def symsO (os : List Oj) : List (List Sy) := os.map (·.l)
theorem symsO_length (os : List Oj) : (symsO os).length = os.length := by simp [symsO]
theorem rowS_symsO {i : Nat} (h : i < os.length) : rowS (symsO os) i = (ojAt os i).l := by
  unfold rowS symsO ojAt
  rw [List.getD_eq_getElem?_getD, List.getElem?_map, List.getElem?_eq_getElem h, List.getD_eq_getElem?_getD, List.getElem?_eq_getElem h]; rfl
theorem fs_ofO (h : OjsL w A n c os) : Fs w w.heap.size A n c (symsO os) where
  len := by rw [symsO_length, h.wd.1]
  few := h.wd.few
  row := fun i hi => by
    obtain ⟨ad, e, hb, c0, c1, c2⟩ := h.at_ hi
    have hr : rowS (symsO os) i = (ojAt os i).l := rowS_symsO (by rw [h.wd.1]; exact hi)
    have hs := (h.each i hi).sy
    refine ⟨ad, _, _, _, _, _, _, _, _, _, e, hb, c0, c1, c2, by rw [hr, hs.1], hs.few, fun k hk => ?_⟩
    unfold atS
    rw [hr]
    exact hs.at_ hk
end

/-- How many functions, or data, lie in the files ahead. -/
def offs (os : List Oj) (s : Int) : Nat → Nat
  | 0 => 0
  | i + 1 => offs os s i + mostO (ojAt os i).fn (ojAt os i).dn s
/-- The number of what a symbol is bound to. -/
def numV (os : List Oj) (i k : Nat) : Int :=
  (atS (symsO os) (boundAt (symsO os) (i, k)).1.1 (boundAt (symsO os) (i, k)).1.2).2.2.2.2 + (offs os (atS (symsO os) (boundAt (symsO os) (i, k)).1.1 (boundAt (symsO os) (i, k)).1.2).2.2.1 (boundAt (symsO os) (i, k)).1.1 : Int)
theorem offs_few {os : List Oj} {n : Nat} (hf : ∀ i, i < n → (ojAt os i).fn ≤ 20 ∧ (ojAt os i).dn ≤ 20) (s : Int) : ∀ i, i ≤ n → offs os s i ≤ 20 * i
  | 0, _ => Nat.le_refl _
  | i + 1, h => by
    have h1 := offs_few hf s i (by omega)
    have h2 := hf i (by omega)
    show offs os s i + mostO (ojAt os i).fn (ojAt os i).dn s ≤ 20 * (i + 1)
    unfold mostO
    split <;> omega
theorem boundAt_in {L : List (List Sy)} {i k : Nat} (hi : i < L.length) (hk : k < (rowS L i).length) : (boundAt L (i, k)).2 = 0 → (boundAt L (i, k)).1.1 < L.length ∧ (boundAt L (i, k)).1.2 < (rowS L (boundAt L (i, k)).1.1).length := by
  intro h
  by_cases hd : (atS L i k).2.2.2.2 = -1
  · cases hf : findV L (atS L i k).1 with
    | none => rw [boundAt_none (p := (i, k)) hd hf] at h; exact absurd h (by decide)
    | some q =>
      obtain ⟨a, b, _, _⟩ := findV_some hf
      by_cases hc : (atS L q.1 q.2).2.2.1 ≠ (atS L i k).2.2.1 ∨ (atS L q.1 q.2).2.2.2.1 ≠ (atS L i k).2.2.2.1
      · rw [boundAt_class (p := (i, k)) hd hf hc] at h; exact absurd h (by decide)
      · rw [boundAt_to (p := (i, k)) (q := q) hd hf (Decidable.not_not.1 fun x => hc (.inl x)) (Decidable.not_not.1 fun x => hc (.inr x))]
        exact ⟨a, b⟩
  · rw [boundAt_own (p := (i, k)) hd]
    exact ⟨hi, hk⟩

set_option maxRecDepth 100000 in
set_option maxHeartbeats 4000000 in
theorem number_any (w : World) (A : Option Addr) (n c : Nat) (os : List Oj) (h : OjsL w A n c os) (hn : n ≤ 9) (hf : ∀ i, i < n → (ojAt os i).fn ≤ 20 ∧ (ojAt os i).dn ≤ 20) (i k : Nat) (hi : i < n) (hk : k < (ojAt os i).n) (hb : (boundAt (symsO os) (i, k)).2 = 0)
    (hd : -1000 ≤ (atS (symsO os) (boundAt (symsO os) (i, k)).1.1 (boundAt (symsO os) (i, k)).1.2).2.2.2.2 ∧ (atS (symsO os) (boundAt (symsO os) (i, k)).1.1 (boundAt (symsO os) (i, k)).1.2).2.2.2.2 ≤ 1000) :
    Calls Try.prog 37 #[.slice A n c, .int .i64 (i : Int), .int .i64 (k : Int)] w fun e w' => e = .returned (.int .i64 (numV os i k)) ∧ Below w.heap.size w w' := by
  have hlo : os.length = n := h.wd.1
  have hll : (symsO os).length = n := by rw [symsO_length, hlo]
  have hrl : (rowS (symsO os) i).length = (ojAt os i).n := by rw [rowS_symsO (by omega), (h.each i hi).sy.1]
  have hin := boundAt_in (L := symsO os) (i := i) (k := k) (by omega) (by omega) hb
  have HBD := Lib.hid (fun W (hw : Below w.heap.size w W) => rbound_in A n c w.heap.size (symsO os) W ((fs_ofO h).below (Nat.le_refl _) hw) hw.size i k hi (by omega))
  have HAT := Lib.hid (fun W (hw : Below w.heap.size w W) j (hj : j < n) => (h.on hw).at_ hj)
  have HSY := Lib.hid (fun W (hw : Below w.heap.size w W) j (hj : j < n) m (hm : m < (ojAt os j).n) => ((h.on hw).each j hj).sy.at_ hm)
  have HOF := Lib.hid (fun s j (hj : j ≤ n) => offs_few hf s j hj)
  have HFW := Lib.hid hf
  unfold numV
  obtain ⟨⟨⟨qa, qb⟩, qe⟩, hq⟩ : ∃ q, boundAt (symsO os) (i, k) = q := ⟨_, rfl⟩
  rw [hq] at HBD hb hd hin ⊢
  dsimp only at HBD hb hd hin ⊢
  subst hb
  unfold boundE at HBD
  dsimp only at HBD
  have hqa : qa < n := by omega
  have hqb : qb < (ojAt os qa).n := by
    have h2 := hin.2
    rw [rowS_symsO (by omega), (h.each qa hqa).sy.1] at h2
    exact h2
  have hat : atS (symsO os) qa qb = syAt (ojAt os qa).l qb := by unfold atS; rw [rowS_symsO (by omega)]
  rw [hat] at hd ⊢
  have HS1 := Lib.hid (fun W (hw : Below w.heap.size w W) => HSY.out W hw qa hqa qb hqb)
  have HA1 := Lib.hid (fun W (hw : Below w.heap.size w W) => HAT.out W hw qa hqa)
  obtain ⟨⟨y0, y1, y2, y3, y4⟩, hy⟩ : ∃ y, syAt (ojAt os qa).l qb = y := ⟨_, rfl⟩
  rw [hy] at HS1 hd ⊢
  dsimp only at HS1 hd ⊢
  obtain ⟨⟨oA, on, oc, ol, fA, fn, fc, fl, dA, dn, dc, dl⟩, ho⟩ : ∃ o, ojAt os qa = o := ⟨_, rfl⟩
  rw [ho] at HS1 HA1 hqb
  dsimp only at HS1 HA1 hqb
  obtain ⟨ad, rfl, -⟩ := HA1.out w (Below.refl _ _)
  obtain ⟨sa, rfl, -⟩ := HS1.out w (Below.refl _ _)
  have hqa0 : (0 : Int) ≤ (qa : Int) := by omega
  have hqa1 : (qa : Int) < (n : Int) := by omega
  have hqb0 : (0 : Int) ≤ (qb : Int) := by omega
  have hqb1 : (qb : Int) < (on : Int) := by omega
  clear h hlo hll hrl hin hq hat hy ho hf hi hk HSY
  go_enter Try.func37, Try.ntmps37
  go_wp2_with (go_at_call 52; refine (HBD.out _ (Below.refl _ _)).mono ?_; rintro e w2 ⟨rfl, b2⟩; obtain ⟨ae, ee, hz1, a0, a1, a2⟩ := HA1.out w2 b2; obtain rfl := Option.some.inj ee; clear ee; obtain ⟨se, es, hz2, s0, s1, s2, s3, s4⟩ := HS1.out w2 b2; obtain rfl := Option.some.inj es; clear es; have HB2 := Lib.hid b2; clear b2)
  clear a0 a1 a2 s0 s1 s2 s3 s4 hz1 hz2
  obtain ⟨W0, hW0⟩ : ∃ W0, w2.alloc (.cells #[.string y0, .bool y1, .int .i64 y2, .int .i64 y3, .int .i64 y4] 89) = W0 := ⟨_, rfl⟩
  have HW0 := Lib.hid (show Below w2.heap.size w2 W0 from by rw [← hW0]; exact alloc_ _ _)
  have hbk : Blk W0 w2.heap.size 89 #[.string y0, .bool y1, .int .i64 y2, .int .i64 y3, .int .i64 y4] := by rw [← hW0]; exact Blk.new _ _ _
  have HX := Lib.hid (fun W (hw : Below W0.heap.size W0 W) => (hbk.below hw hbk.lt).cell 2)
  rw [hW0]
  clear hW0 hbk
  go_loopw [11, 12] (fun v9 i9 wr => ∃ j : Nat, j ≤ qa ∧ i9 = .int .i64 (j : Int) ∧ v9 = .int .i64 (y4 + (offs os y2 j : Int)) ∧ Hid (Below W0.heap.size W0 wr)) (fun _ i9 _ => qa - (intOf i9).toNat)
  case atStart => exact ⟨0, Nat.zero_le _, rfl, by show _ = Value.int .i64 (y4 + ((0 : Nat) : Int)); simp, Lib.hid (Below.refl _ _)⟩
  case round =>
    obtain ⟨j, hj, rfl, rfl, HBE⟩ := hrel
    have x2 : wr.cell? ⟨w2.heap.size, 2, none⟩ = some (.int .i64 y2) := HX.out wr HBE.out
    by_cases hlt : j < qa
    · have hjI : (j : Int) < (qa : Int) := by omega
      have hjn : (j : Int) < (n : Int) := by omega
      have hj0 : (0 : Int) ≤ (j : Int) := by omega
      have h1 := HOF.out y2 j (by omega)
      have h2 := HFW.out j (by omega)
      have hs1 : offs os y2 (j + 1) = offs os y2 j + mostO (ojAt os j).fn (ojAt os j).dn y2 := rfl
      obtain ⟨a9, e9, _, a0, a1, a2⟩ := HAT.out wr (to_ HB2.out (to_ HW0.out HBE.out)) j (by omega)
      obtain rfl := Option.some.inj e9
      clear e9
      obtain ⟨⟨oA9, on9, oc9, ol9, fA9, fn9, fc9, fl9, dA9, dn9, dc9, dl9⟩, ho9⟩ : ∃ o, ojAt os j = o := ⟨_, rfl⟩
      rw [ho9] at a0 a1 a2 h2 hs1
      dsimp only at a0 a1 a2 h2 hs1
      generalize offs os y2 j = f9 at *
      by_cases k1 : y2 = 1
      · have k1' : (y2 == 1) = true := by simp [k1]
        unfold mostO at hs1
        rw [if_pos k1] at hs1
        have HR := Lib.hid hs1
        clear k1 hs1 ho9
        go_wp2_with fail
        go_roundw
        case rel => exact ⟨j + 1, by omega, by go_num, by rw [HR.out]; go_num, HBE⟩
        case measure => simp [intOf]; omega
      · have k1' : (y2 == 1) = false := by simp [k1]
        unfold mostO at hs1
        rw [if_neg k1] at hs1
        have HR := Lib.hid hs1
        clear k1 hs1 ho9
        go_wp2_with fail
        go_roundw
        case rel => exact ⟨j + 1, by omega, by go_num, by rw [HR.out]; go_num, HBE⟩
        case measure => simp [intOf]; omega
    · obtain rfl : j = qa := by omega
      go_wp2_with fail
      go_ret
      exact ⟨rfl, to_ HB2.out (to_ HW0.out HBE.out)⟩

/-! ### numbers of symbols' places -/
def encI (z : Int) : List Value := [.int .i64 z]
theorem encI_len (z : Int) : (encI z).length = 1 := rfl
def IL (w : World) (A : Option Addr) (n c : Nat) (l : List Int) : Prop := Wd 1 encI w w.heap.size A n c l
theorem IL.on {w w' : World} {A : Option Addr} {n c : Nat} {l : List Int} (h : IL w A n c l) (hb : Below w.heap.size w w') : IL w' A n c l := (Wd.below h hb).more hb.size
theorem IL.at_ {w : World} {A : Option Addr} {n c : Nat} {l : List Int} (h : IL w A n c l) {i : Nat} (hi : i < n) : ∃ ad, A = some ad ∧ ad.block < w.heap.size ∧ w.cell? (ad.add i) = some (.int .i64 (l.getD i 0)) := by
  have hl : i < l.length := by rw [h.1]; exact hi
  obtain ⟨ad, e, hb, hc⟩ := h.2.2.2.2 i (l.getD i 0) (by rw [List.getD_eq_getElem?_getD, List.getElem?_eq_getElem hl]; rfl)
  have := hc 0 _ rfl
  rw [Nat.mul_one] at this
  exact ⟨ad, e, hb, by rw [show (ad.add i).add 0 = ad.add i from by unfold Addr.add; simp] at this; exact this⟩
def bV (os : List Oj) (i : Nat) (zs : List Int) : List Int := zs.map fun z => if 0 ≤ z then numV os i z.toNat else -1
theorem take_next {α : Type} {l : List α} {k : Nat} {d : α} (h : k < l.length) : l.take (k + 1) = l.take k ++ [l.getD k d] := by
  rw [List.take_succ_eq_append_getElem h, List.getD_eq_getElem?_getD, List.getElem?_eq_getElem h]; rfl
theorem infoInt : (Try.prog.info? 3).map (fun i => (i.zero, i.size, i.bytes)) = some (some (.int .i64 0), 1, 8) := by kernel_rfl
theorem one_new (W : World) (x : Value) (t : TypeId) : ∀ j u, [x][j]? = some u → (W.alloc (.cells #[x] t)).cell? ((⟨W.heap.size, 0, none⟩ : Addr).add j) = some u := fun j u hu => by
  obtain rfl : j = 0 := by have := (List.getElem?_eq_some_iff.1 hu).1; simpa using this
  rw [← hu]
  exact (Blk.new W t #[x]).cell 0

set_option maxRecDepth 100000 in
set_option maxHeartbeats 4000000 in
theorem bound_any (w : World) (A Ai : Option Addr) (n c m ci : Nat) (os : List Oj) (i : Nat) (zs : List Int) (hz : IL w Ai m ci zs) (hm : m ≤ 5000) (hok : ∀ z ∈ zs, z < 0 ∨ (0 ≤ z ∧ z.toNat < (ojAt os i).n))
    (hnum : ∀ W, Below w.heap.size w W → ∀ k, k < (ojAt os i).n → Calls Try.prog 37 #[.slice A n c, .int .i64 (i : Int), .int .i64 (k : Int)] W fun e w' => e = .returned (.int .i64 (numV os i k)) ∧ Below W.heap.size W w') :
    Calls Try.prog 56 #[.slice A n c, .int .i64 (i : Int), .slice Ai m ci] w fun e w' => ∃ v, e = .returned v ∧ w'.ownsRow w.heap.size 3 1 v m ((bV os i zs).flatMap encI) ∧ Below w.heap.size w w' := by
  obtain ⟨i0, hi0, hz0, hz1, hz2⟩ := info_split infoInt
  have hl : zs.length = m := hz.1
  have HZ := Lib.hid (fun W (hb : Below w.heap.size w W) k (hk : k < m) => (hz.on hb).at_ hk)
  have HOK := Lib.hid (fun k (hk : k < m) => hok (zs.getD k 0) (by rw [List.getD_eq_getElem?_getD, List.getElem?_eq_getElem (by omega)]; exact List.getElem_mem _))
  have HNM := Lib.hid hnum
  have HTK := Lib.hid (fun k (hk : k < m) => show (bV os i (zs.take (k + 1))).flatMap encI = (bV os i (zs.take k)).flatMap encI ++ [.int .i64 (if 0 ≤ zs.getD k 0 then numV os i (zs.getD k 0).toNat else -1)] from by
    rw [take_next (d := 0) (by omega)]; unfold bV; rw [List.map_append, List.flatMap_append]; rfl)
  have HAL := Lib.hid (show zs.take m = zs from by rw [← hl, List.take_length])
  clear hz hok hnum hl
  go_enter Try.func56, Try.ntmps56
  go_wp2_with fail
  go_loopw [7, 8] (fun v9 i9 wr => ∃ k : Nat, k ≤ m ∧ i9 = .int .i64 (k : Int) ∧ Hid (wr.ownsRow w.heap.size 3 1 v9 k ((bV os i (zs.take k)).flatMap encI)) ∧ Hid (Below w.heap.size w wr)) (fun _ i9 _ => m - (intOf i9).toNat)
  case atStart => exact ⟨0, Nat.zero_le _, rfl, Lib.hid (World.ownsRow_nil _ _ _ _), Lib.hid (Below.refl _ _)⟩
  case round =>
    obtain ⟨k, hk, rfl, HOW, HBE⟩ := hrel
    by_cases hlt : k < m
    · have hkI : (k : Int) < (m : Int) := by omega
      have hk0 : (0 : Int) ≤ (k : Int) := by omega
      obtain ⟨ad, rfl, hzb, z0⟩ := HZ.out wr HBE.out k hlt
      have HT := Lib.hid (HTK.out k hlt)
      have hor := HOK.out k hlt
      obtain ⟨z, hz⟩ : ∃ z, zs.getD k 0 = z := ⟨_, rfl⟩
      rw [hz] at z0 HT hor
      clear hz
      by_cases hz : 0 ≤ z
      · rw [if_pos hz] at HT
        obtain ⟨zn, rfl⟩ : ∃ zn : Nat, z = (zn : Int) := ⟨z.toNat, by omega⟩
        rw [Int.toNat_natCast] at HT hor
        have HC := Lib.hid (fun W hw => HNM.out W hw zn (by omega))
        generalize numV os i zn = nv at HT HC
        clear hor
        go_wp2_with (go_at_call 37; refine (HC.out _ HBE.out).mono ?_; rintro e w3 ⟨rfl, b3⟩; have HB3 := Lib.hid b3; clear b3; go_wp2_with (at_builtin; go_loud (refine wpList_append_own _ rfl _ _ 24 rfl w.heap.size 3 i0 (.int .i64 0) 1 8 Try.underlying24 hi0 hz0 hz1 hz2 rfl (by decide) _ _ _ rfl (own_keep1 HOW.out fun gg _ hgl _ => (to_ HB3.out (alloc_ _ _)).block gg hgl) ⟨w3.heap.size, 0, none⟩ 1 1 [.int .i64 nv] rfl rfl (one_new w3 _ 3) (by simp [Value.oneCell']) (by unfold maxLen; omega) (by omega) (by have := HBE.out.size; have := HB3.out.size; simp; omega) ?_; intro v' w' h2 h3 _; have H2 := Lib.hid h2; have H3 := Lib.hid h3; clear h2 h3)))
        go_roundw
        case rel => exact ⟨k + 1, by omega, by go_num, Lib.hid (by rw [HT.out]; exact H2.out), Lib.hid (((to_ HBE.out (to_ HB3.out (alloc_ _ _)))).grown H3.out (to_ HBE.out (to_ HB3.out (alloc_ _ _))).size fun r e => (HOW.out.lt r e).1)⟩
        case measure => simp [intOf]; omega
      · rw [if_neg hz] at HT
        clear hor
        go_wp2_with (at_builtin; go_loud (refine wpList_append_own _ rfl _ _ 24 rfl w.heap.size 3 i0 (.int .i64 0) 1 8 Try.underlying24 hi0 hz0 hz1 hz2 rfl (by decide) _ _ _ rfl (own_keep1 HOW.out fun gg _ hgl _ => (alloc_ _ _).block gg hgl) ⟨wr.heap.size, 0, none⟩ 1 1 [.int .i64 (-1)] rfl rfl (one_new wr _ 3) (by simp [Value.oneCell']) (by unfold maxLen; omega) (by omega) (by have := HBE.out.size; simp; omega) ?_; intro v' w' h2 h3 _; have H2 := Lib.hid h2; have H3 := Lib.hid h3; clear h2 h3))
        go_roundw
        case rel => exact ⟨k + 1, by omega, by go_num, Lib.hid (by rw [HT.out]; exact H2.out), Lib.hid ((to_ HBE.out (alloc_ _ _)).grown H3.out (to_ HBE.out (alloc_ _ _)).size fun r e => (HOW.out.lt r e).1)⟩
        case measure => simp [intOf]; omega
    · obtain rfl : k = m := by omega
      have HO := Lib.hid (show wr.ownsRow w.heap.size 3 1 u7 k ((bV os i zs).flatMap encI) from by have := HOW.out; rw [HAL.out] at this; exact this)
      go_wp2_with fail
      go_ret
      exact ⟨_, rfl, HO.out, HBE.out⟩
end Go.Proofs.Ytbcabomblfehlab.Bo
