/-
 Qk2 Ql2 Re2 Ta2
-/
import Derived.Test.YtdaimeaofgbfpaaGreatZa2
import Derived.Test.YtdaimeaofgbfpaaGreatQh2
import Derived.Test.YtdaimeaofgbfpaaGreatPb2
set_option linter.unusedSimpArgs false
set_option linter.unusedVariables false
namespace Go.Proofs.YtdaimeaofgbfpaaGreat.Bo
open Go.RowKit Go.Maps
open Mem Rf
def IOwn (w : World) (L : List Int) (e : Ending) (w' : World) : Prop := ∃ v, e = .returned v ∧ w'.ownsRow w.heap.size 3 1 v L.length (L.flatMap encI) ∧ Below w.heap.size w w'
theorem own_il {w : World} {B : Nat} {v : Value} {L : List Int} (h : w.ownsRow B 3 1 v L.length (L.flatMap encI)) : ∃ A c, v = .slice A L.length c ∧ IL w A L.length c L := wd_own encI_len rfl h
def rise (m : Nat) (l : List Int) : List Int := ((List.range m).filter fun (i : Nat) => l.contains (i : Int)).map fun (i : Nat) => (i : Int)
theorem rise_succ (m : Nat) (l : List Int) : rise (m + 1) l = rise m l ++ (if l.contains (m : Int) = true then [(m : Int)] else []) := by
 unfold rise
 rw [List.range_succ, List.filter_append, List.map_append]
 by_cases h : l.contains (m : Int) = true
 ·rw [if_pos h]; simp only [List.filter_cons, List.filter_nil]; rw [if_pos h]; rfl
 ·rw [if_neg h]; simp only [List.filter_cons, List.filter_nil]; rw [if_neg h]; rfl
theorem rise_len (m : Nat) (l : List Int) : (rise m l).length ≤ m := by
 unfold rise; rw [List.length_map]; exact Nat.le_trans (List.length_filter_le _ _) (by simp)
def gatL (cs : List By.In5) (rs : List Int) (ok : By.In5 → Bool) (k : Nat) : List Int := ((List.range k).filter fun j => ok (By.inAt cs j)).map fun j => rs.getD j 0
theorem gatL_succ (cs : List By.In5) (rs : List Int) (ok : By.In5 → Bool) (k : Nat) : gatL cs rs ok (k + 1) = gatL cs rs ok k ++ (if ok (By.inAt cs k) = true then [rs.getD k 0] else []) := by
 unfold gatL
 rw [List.range_succ, List.filter_append, List.map_append]
 by_cases h : ok (By.inAt cs k) = true
 ·rw [if_pos h]; simp only [List.filter_cons, List.filter_nil]; rw [if_pos h]; rfl
 ·rw [if_neg h]; simp only [List.filter_cons, List.filter_nil]; rw [if_neg h]; rfl
theorem gatL_len (cs : List By.In5) (rs : List Int) (ok : By.In5 → Bool) (k : Nat) : (gatL cs rs ok k).length ≤ k := by
 unfold gatL; rw [List.length_map]; exact Nat.le_trans (List.length_filter_le _ _) (by simp)
def okN (ns : List Int) (x : By.In5) : Bool := ns.contains (By.ndV x.1)
theorem flatI (l m : List Int) : (l ++ m).flatMap encI = l.flatMap encI ++ m.flatMap encI := List.flatMap_append
set_option maxRecDepth 100000 in
set_option maxHeartbeats 2000000 in
theorem in_any (w : World) (A : Option Addr) (n c : Nat) (l : List Int) (x : Int) (h : IL w A n c l) (hn : n ≤ 1000000) :
  Calls Tryz.prog 100 #[.slice A n c, .int .i64 x] w fun e w' => e = .returned (.bool (l.contains x)) ∧ w = w' := by
 have HL := Hd (fun i (hi : i < n) => h.at_ hi)
 have hl : l.length = n := h.1
 have HC := Hd (show ∀ k, k < n → ((∀ m, m < k → l.getD m 0 ≠ x) ∧ l.getD k 0 = x → l.contains x = true) from fun k hk hh => by
  rw [List.contains_iff_mem, ← hh.2, List.getD_eq_getElem?_getD, List.getElem?_eq_getElem (by omega)]; exact List.getElem_mem _)
 have HN := Hd (show (∀ m, m < n → l.getD m 0 ≠ x) → l.contains x = false from fun hh => by
  cases hc : l.contains x with
  | false => rfl
  | true =>
   obtain ⟨i, hi, e⟩ := List.getElem_of_mem (List.contains_iff_mem.1 hc)
   exact absurd (by rw [List.getD_eq_getElem?_getD, List.getElem?_eq_getElem hi]; exact e) (hh i (by omega)))
 obtain ⟨b, hb⟩ : ∃ b, l.contains x = b := ⟨_, rfl⟩
 rw [hb] at HC HN ⊢
 clear h hl hb
 go_enter Tryz.func100, Tryz.ntmps100
 go_wp2_with fail
 go_loop [5] (fun i9 => ∃ k : Nat, k ≤ n ∧ i9 = .int .i64 (k : Int) ∧ Hid (∀ m, m < k → l.getD m 0 ≠ x)) (fun i9 => n - (intOf i9).toNat)
 case atStart => exact ⟨0, Nat.zero_le _, rfl, Hd (fun m hm => by omega)⟩
 case round =>
  obtain ⟨k, hk, rfl, HNO⟩ := hrel
  by_cases hlt : k < n
  ·have hkI : (k : Int) < (n : Int) := by omega
   have hk0 : (0 : Int) ≤ (k : Int) := by omega
   obtain ⟨ad, rfl, _, z0⟩ := HL.out k hlt
   have HV := Hd (fun e => HC.out k hlt ⟨HNO.out, e⟩)
   have HM := Hd (fun e => upto_more (p := fun m => l.getD m 0 ≠ x) HNO.out e)
   obtain ⟨z, hz⟩ : ∃ z, l.getD k 0 = z := ⟨_, rfl⟩
   rw [hz] at z0 HV HM
   clear hz
   by_cases e : z = x
   ·have e' : (z == x) = true := by simp [e]
    have HR := Hd (HV.out e)
    clear e
    go_wp2_with fail
    go_ret
    exact ⟨by rw [HR.out]; rfl, rfl⟩
   ·have e' : (z == x) = false := by simp [e]
    have HR := Hd (HM.out e)
    clear e
    go_wp2_with fail
    go_roundw
    case rel => exact ⟨k + 1, by omega, by go_num, HR⟩
    case measure => simp [intOf]; omega
  ·obtain rfl : n = k := by omega
   have HR := Hd (HN.out HNO.out)
   go_wp2_with fail
   go_ret
   exact ⟨by rw [HR.out]; rfl, rfl⟩
set_option maxRecDepth 100000 in
set_option maxHeartbeats 2000000 in
theorem rising_any (w : World) (A : Option Addr) (n c : Nat) (l : List Int) (m : Nat) (h : IL w A n c l) (hn : n ≤ 1000000) (hm : m ≤ 1000) :
  Calls Tryz.prog 94 #[.slice A n c, .int .i64 (m : Int)] w (IOwn w (rise m l)) := by
 obtain ⟨iN, hiN, hzN0, hzN1, hzN2⟩ := info_split infoInt
 have HI := Hd (fun W (hb : Below w.heap.size w W) x => in_any W A n c l x (h.on hb) hn)
 have HS := Hd (fun k => rise_succ k l)
 have HL := Hd (fun k => rise_len k l)
 clear h
 unfold IOwn
 go_enter Tryz.func94, Tryz.ntmps94
 go_wp2_with fail
 go_loopw [5, 6] (fun v9 i9 wr => ∃ k : Nat, k ≤ m ∧ i9 = .int .i64 (k : Int) ∧ Hid (wr.ownsRow w.heap.size 3 1 v9 (rise k l).length ((rise k l).flatMap encI)) ∧ Hid (Below w.heap.size w wr)) (fun _ i9 _ => m - (intOf i9).toNat)
 case atStart => exact ⟨0, Nat.zero_le _, rfl, Hd (World.ownsRow_nil _ _ _ _), Hd (Below.refl _ _)⟩
 case round =>
  obtain ⟨k, hk, rfl, HOW, HBE⟩ := hrel
  by_cases hlt : k < m
  ·have hkI : (k : Int) < (m : Int) := by omega
   have hs := HS.out k
   have hl9 := HL.out k
   have HC := Hd (HI.out wr HBE.out (k : Int))
   obtain ⟨b, hb⟩ : ∃ b, l.contains (k : Int) = b := ⟨_, rfl⟩
   rw [hb] at hs HC
   clear hb
   cases b with
   | true =>
    rw [if_pos rfl] at hs
    have HX := Hd hs
    clear hs
    obtain ⟨q, hq⟩ : ∃ q, (rise k l).length = q := ⟨_, rfl⟩
    have HW := Hd (show wr.ownsRow w.heap.size 3 1 u5 q ((rise k l).flatMap encI) from by rw [← hq]; exact HOW.out)
    rw [hq] at hl9
    have HQ := Hd hq
    clear hq
    go_wp2_with (first
     | (go_at_call 100; refine HC.out.mono ?_; rintro e w3 ⟨rfl, rfl⟩)
     | (at_builtin; go_loud (refine wpList_append_own _ rfl _ _ 44 rfl w.heap.size 3 iN (.int .i64 0) 1 8 Tryz.underlying44 hiN hzN0 hzN1 hzN2 rfl (by decide) _ q ((rise k l).flatMap encI) rfl (own_on HW.out (alloc_ _ _)) ⟨wr.heap.size, 0, none⟩ 1 1 [.int .i64 (k : Int)] rfl rfl (one_new wr _ 3) (by simp [Value.oneCell']) (by unfold maxLen; omega) (by omega) (by have := HBE.out.size; simp; omega) ?_; intro v' w' h2 h3 _; have H2 := Hd h2; have H3 := Hd h3; clear h2 h3)))
    go_roundw
    case rel => exact ⟨k + 1, by omega, by go_num, Hd (by rw [HX.out, List.length_append, HQ.out, flatI]; exact H2.out), Hd ((to_ HBE.out (alloc_ _ _)).grown H3.out (to_ HBE.out (alloc_ _ _)).size fun r e => (HW.out.lt r e).1)⟩
    case measure => simp [intOf]; omega
   | false =>
    rw [if_neg (by simp), List.append_nil] at hs
    have HX := Hd hs
    clear hs
    go_wp2_with (go_at_call 100; refine HC.out.mono ?_; rintro e w3 ⟨rfl, rfl⟩)
    go_roundw
    case rel => exact ⟨k + 1, by omega, by go_num, Hd (by rw [HX.out]; exact HOW.out), HBE⟩
    case measure => simp [intOf]; omega
  ·obtain rfl : m = k := by omega
   go_wp2_with fail
   go_ret
   exact ⟨_, rfl, HOW.out, HBE.out⟩
def gf0 : Gf := ⟨0, 0, ⟨#[]⟩, fc0, (none, 0, 0), []⟩
def gd0 : Gd := ⟨0, 0, ⟨#[]⟩, dc0, (none, 0, 0), []⟩
def gfAt (l : List Gf) (i : Nat) : Gf := l.getD i gf0
def gdAt (l : List Gd) (i : Nat) : Gd := l.getD i gd0
theorem gfAt_some {l : List Gf} {i : Nat} (h : i < l.length) : l[i]? = some (gfAt l i) := by unfold gfAt; rw [List.getD_eq_getElem?_getD, List.getElem?_eq_getElem h]; rfl
theorem gdAt_some {l : List Gd} {i : Nat} (h : i < l.length) : l[i]? = some (gdAt l i) := by unfold gdAt; rw [List.getD_eq_getElem?_getD, List.getElem?_eq_getElem h]; rfl
structure GfR (w : World) (g : Gf) (cs : List By.In5) : Prop where
 code : By.InL w g.F.code.1 g.F.code.2.1 g.F.code.2.2 cs
 refs : IL w g.R.1 g.R.2.1 g.R.2.2 g.refs
 few : g.F.code.2.1 ≤ 80 ∧ g.R.2.1 ≤ 80
 bd : ∀ k, -9223372036854775808 ≤ (By.inAt cs k).1 ∧ (By.inAt cs k).1 ≤ 9223372036854775807
structure GdR (w : World) (g : Gd) : Prop where
 refs : IL w g.R.1 g.R.2.1 g.R.2.2 g.refs
 few : g.D.words.2.1 ≤ 80 ∧ g.R.2.1 ≤ g.D.words.2.1
theorem GfR.on {w w' : World} {g : Gf} {cs : List By.In5} (h : GfR w g cs) (hb : Below w.heap.size w w') : GfR w' g cs := ⟨(By.Wd.below h.code hb).more hb.size, h.refs.on hb, h.few, h.bd⟩
theorem GdR.on {w w' : World} {g : Gd} (h : GdR w g) (hb : Below w.heap.size w w') : GdR w' g := ⟨h.refs.on hb, h.few⟩
structure Pgm where
 fA : Option Addr
 fn : Nat
 fc : Nat
 fs : List Gf
 dA : Option Addr
 dn : Nat
 dc : Nat
 ds : List Gd
 entry : Int
 cs : Nat → List By.In5
def pgV (P : Pgm) : Value := .agg #[.slice P.fA P.fn P.fc, .slice P.dA P.dn P.dc, .int .i64 P.entry]
structure PgR (w : World) (P : Pgm) : Prop where
 fr : Wd 13 encGf w w.heap.size P.fA P.fn P.fc P.fs
 dr : Wd 7 encGd w w.heap.size P.dA P.dn P.dc P.ds
 fns : ∀ i, i < P.fn → GfR w (gfAt P.fs i) (P.cs i)
 dats : ∀ i, i < P.dn → GdR w (gdAt P.ds i)
 few : P.fn ≤ 24 ∧ P.dn ≤ 24
theorem PgR.on {w w' : World} {P : Pgm} (h : PgR w P) (hb : Below w.heap.size w w') : PgR w' P := ⟨(h.fr.below hb).more hb.size, (h.dr.below hb).more hb.size, fun i hi => (h.fns i hi).on hb, fun i hi => (h.dats i hi).on hb, h.few⟩
theorem gf_at {w : World} {B : Nat} {A : Option Addr} {n c : Nat} {l : List Gf} (h : Wd 13 encGf w B A n c l) {i : Nat} (hi : i < n) :
  ∃ ad, A = some ad ∧ ad.block < B ∧ w.cell? (ad.add (i * 13)) = some (.int .i64 ((gfAt l i).file : Int)) ∧ ∀ j u, (encGf (gfAt l i))[j + 1]? = some u → w.cell? ⟨(ad.add (i * 13)).block, (ad.add (i * 13)).off + (j + 1), none⟩ = some u := by
 obtain ⟨ad, e, hb, hc⟩ := h.2.2.2.2 i _ (gfAt_some (by rw [h.1]; exact hi))
 exact ⟨ad, e, hb, hc 0 _ rfl, fun j u hu => by rw [← add_field _ (j + 1) (by omega)]; exact hc (j + 1) u hu⟩
theorem gd_at {w : World} {B : Nat} {A : Option Addr} {n c : Nat} {l : List Gd} (h : Wd 7 encGd w B A n c l) {i : Nat} (hi : i < n) :
  ∃ ad, A = some ad ∧ ad.block < B ∧ w.cell? (ad.add (i * 7)) = some (.int .i64 ((gdAt l i).file : Int)) ∧ ∀ j u, (encGd (gdAt l i))[j + 1]? = some u → w.cell? ⟨(ad.add (i * 7)).block, (ad.add (i * 7)).off + (j + 1), none⟩ = some u := by
 obtain ⟨ad, e, hb, hc⟩ := h.2.2.2.2 i _ (gdAt_some (by rw [h.1]; exact hi))
 exact ⟨ad, e, hb, hc 0 _ rfl, fun j u hu => by rw [← add_field _ (j + 1) (by omega)]; exact hc (j + 1) u hu⟩
theorem in_at {w : World} {A : Option Addr} {n c : Nat} {cs : List By.In5} (h : By.InL w A n c cs) {i : Nat} (hi : i < n) :
  ∃ ad, A = some ad ∧ ad.block < w.heap.size ∧ w.cell? (ad.add (i * 5)) = some (.int .i64 (By.inAt cs i).1) ∧ w.cell? ⟨(ad.add (i * 5)).block, (ad.add (i * 5)).off + 1, none⟩ = some (.int .i64 (By.inAt cs i).2.1) ∧ w.cell? ⟨(ad.add (i * 5)).block, (ad.add (i * 5)).off + 2, none⟩ = some (.int .i64 (By.inAt cs i).2.2.1) ∧ w.cell? ⟨(ad.add (i * 5)).block, (ad.add (i * 5)).off + 3, none⟩ = some (.int .i64 (By.inAt cs i).2.2.2.1) ∧ w.cell? ⟨(ad.add (i * 5)).block, (ad.add (i * 5)).off + 4, none⟩ = some (.int .i64 (By.inAt cs i).2.2.2.2) := by
 have hl : i < cs.length := by rw [h.1]; exact hi
 obtain ⟨ad, e, hb, hc⟩ := h.2.2.2.2 i (By.inAt cs i) (by unfold By.inAt; rw [List.getD_eq_getElem?_getD, List.getElem?_eq_getElem hl]; rfl)
 have f : ∀ j, 0 < j → (ad.add (i * 5)).add j = ⟨(ad.add (i * 5)).block, (ad.add (i * 5)).off + j, none⟩ := fun j hj => add_field _ j hj
 refine ⟨ad, e, hb, hc 0 _ rfl, ?_, ?_, ?_, ?_⟩
 ·rw [← f 1 (by omega)]; exact hc 1 _ rfl
 ·rw [← f 2 (by omega)]; exact hc 2 _ rfl
 ·rw [← f 3 (by omega)]; exact hc 3 _ rfl
 ·rw [← f 4 (by omega)]; exact hc 4 _ rfl
def gatV (g : Gf) (cs : List By.In5) (ns : List Int) : List Int := gatL cs g.refs (okN ns) (min g.F.code.2.1 g.R.2.1)
set_option maxRecDepth 100000 in
set_option maxHeartbeats 4000000 in
theorem refs_any (w : World) (g : Gf) (cs : List By.In5) (h : GfR w g cs) (An : Option Addr) (m cm : Nat) (ns : List Int) (hns : IL w An m cm ns) (hm : m ≤ 100) :
  Calls Tryz.prog 93 #[.agg (encGf g).toArray, .slice An m cm] w (IOwn w (gatV g cs ns)) := by
 obtain ⟨iN, hiN, hzN0, hzN1, hzN2⟩ := info_split infoInt
 have HC := Hd (fun W (hb : Below w.heap.size w W) i (hi : i < g.F.code.2.1) => in_at (h.on hb).code hi)
 have HR := Hd (fun W (hb : Below w.heap.size w W) i (hi : i < g.R.2.1) => (h.on hb).refs.at_ hi)
 have HN := Hd (fun W (hb : Below w.heap.size w W) x => in_any W An m cm ns x (hns.on hb) (by omega))
 have HND := Hd (fun W k => By.rneed_any (By.inAt cs k).1 (h.bd k).1 (h.bd k).2 W)
 have HS := Hd (fun k => gatL_succ cs g.refs (okN ns) k)
 have HL := Hd (fun k => gatL_len cs g.refs (okN ns) k)
 have hfw := h.few
 clear h hns
 obtain ⟨file, item, nm, ⟨cl, ⟨kA, kn, kc⟩, pd, no, fr, tt, ⟨lA, ln, lc⟩, ⟨cA, cn, cc⟩, ⟨rA, rn, rc⟩⟩, ⟨qA, qn, qc⟩, refs⟩ := g
 unfold gatV IOwn encGf slV
 dsimp only at HC HR HS HL hfw ⊢
 obtain ⟨ok, hok⟩ : ∃ x, okN ns = x := ⟨_, rfl⟩
 have HOK := Hd (show ∀ x, ok x = ns.contains (By.ndV x.1) from fun x => by rw [← hok]; rfl)
 rw [hok] at HS HL ⊢
 clear hok
 obtain ⟨W0, hW0⟩ : ∃ W0, w.alloc (.cells #[.int .i64 (file : Int), .int .i64 (item : Int), .string nm, .int .i64 cl, .slice kA kn kc, .int .i64 pd, .bool no, .int .i64 fr, .int .i64 tt, .slice lA ln lc, .slice cA cn cc, .slice rA rn rc, .slice qA qn qc] 51) = W0 := ⟨_, rfl⟩
 have HB0 := Hd (show Below w.heap.size w W0 from by rw [← hW0]; exact alloc_ _ _)
 have hbk : Blk W0 w.heap.size 51 #[.int .i64 (file : Int), .int .i64 (item : Int), .string nm, .int .i64 cl, .slice kA kn kc, .int .i64 pd, .bool no, .int .i64 fr, .int .i64 tt, .slice lA ln lc, .slice cA cn cc, .slice rA rn rc, .slice qA qn qc] := by rw [← hW0]; exact Blk.new _ _ _
 have HX := Hd (fun W (hb : Below W0.heap.size W0 W) => show W.cell? ⟨w.heap.size, 10, none⟩ = some (.slice cA cn cc) ∧ W.cell? ⟨w.heap.size, 12, none⟩ = some (.slice qA qn qc) from ⟨(hbk.below hb hbk.lt).cell 10, (hbk.below hb hbk.lt).cell 12⟩)
 clear hbk
 obtain ⟨x10, x12⟩ := HX.out W0 (Below.refl _ _)
 go_enter Tryz.func93, Tryz.ntmps93
 go_wp2_with fail
 clear hW0 x10 x12
 go_loopw [5, 6] (fun v9 i9 wr => ∃ k : Nat, k ≤ min cn qn ∧ i9 = .int .i64 (k : Int) ∧ Hid (wr.ownsRow W0.heap.size 3 1 v9 (gatL cs refs ok k).length ((gatL cs refs ok k).flatMap encI)) ∧ Hid (Below W0.heap.size W0 wr)) (fun _ i9 _ => (min cn qn) - (intOf i9).toNat)
 case atStart => exact ⟨0, Nat.zero_le _, rfl, Hd (World.ownsRow_nil _ _ _ _), Hd (Below.refl _ _)⟩
 case round =>
  obtain ⟨k, hk, rfl, HOW, HBE⟩ := hrel
  obtain ⟨x10, x12⟩ := HX.out wr HBE.out
  have HBW := Hd (to_ HB0.out HBE.out)
  by_cases h1 : k < cn
  ·have h1I : (k : Int) < (cn : Int) := by omega
   by_cases h2 : k < qn
   ·have h2I : (k : Int) < (qn : Int) := by omega
    have hk0 : (0 : Int) ≤ (k : Int) := by omega
    have HLT := Hd (show k < min cn qn by omega)
    obtain ⟨ad, rfl, hz1, z0, -⟩ := HC.out wr HBW.out k h1
    have HND9 := Hd (HND.out wr k)
    have hs := HS.out k
    have hl9 := HL.out k
    have ho9 := HOK.out (By.inAt cs k)
    obtain ⟨b, hb⟩ : ∃ b, ok (By.inAt cs k) = b := ⟨_, rfl⟩
    rw [hb] at hs ho9
    obtain ⟨op, hop⟩ : ∃ x, (By.inAt cs k).1 = x := ⟨_, rfl⟩
    rw [hop] at z0 HND9 ho9
    obtain ⟨nd, hnd⟩ : ∃ x, By.ndV op = x := ⟨_, rfl⟩
    rw [hnd] at HND9 ho9
    have HO9 := Hd ho9.symm
    clear hb hop hnd ho9
    obtain ⟨q, hq⟩ : ∃ q, (gatL cs refs ok k).length = q := ⟨_, rfl⟩
    have HW := Hd (show wr.ownsRow W0.heap.size 3 1 u5 q ((gatL cs refs ok k).flatMap encI) from by rw [← hq]; exact HOW.out)
    have HQ := Hd hq
    rw [hq] at hl9
    clear hq
    cases b with
    | true =>
     rw [if_pos rfl] at hs
     have HX9 := Hd hs
     obtain ⟨rz, hrz⟩ : ∃ x, refs.getD k 0 = x := ⟨_, rfl⟩
     rw [hrz] at HX9
     have HRZ := Hd hrz
     clear hs hrz
     go_wp2_with (go_at_call 130; refine HND9.out.mono ?_; rintro e w3 ⟨rfl, b3⟩; have HB3 := Hd b3; clear b3; go_wp2_with (go_at_call 100; refine (HN.out _ (to_ HBW.out HB3.out) _).mono ?_; rintro e w4 ⟨rfl, rfl⟩; rw [HO9.out]; obtain ⟨y10, y12⟩ := HX.out w3 (to_ HBE.out HB3.out); obtain ⟨rd, rfl, hz2, r0⟩ := HR.out w3 (to_ HBW.out HB3.out) k h2; rw [HRZ.out] at r0; go_wp2_with (at_builtin; go_loud (refine wpList_append_own _ rfl _ _ 44 rfl W0.heap.size 3 iN (.int .i64 0) 1 8 Tryz.underlying44 hiN hzN0 hzN1 hzN2 rfl (by decide) _ q ((gatL cs refs ok k).flatMap encI) rfl (own_on HW.out (to_ HB3.out (alloc_ _ _))) ⟨w3.heap.size, 0, none⟩ 1 1 [.int .i64 rz] rfl rfl (one_new w3 _ 3) (by simp [Value.oneCell']) (by unfold maxLen; omega) (by omega) (by have := HBE.out.size; have := HB3.out.size; simp; omega) ?_; intro v' w' h2 h3 _; have H2 := Hd h2; have H3 := Hd h3; clear h2 h3))))
     go_roundw
     case rel => exact ⟨k + 1, by have := HLT.out; omega, by go_num, Hd (by rw [HX9.out, List.length_append, HQ.out, flatI]; exact H2.out), Hd ((to_ HBE.out (to_ HB3.out (alloc_ _ _))).grown H3.out (to_ HBE.out (to_ HB3.out (alloc_ _ _))).size fun r e => (HW.out.lt r e).1)⟩
     case measure => have := HLT.out; simp [intOf]; omega
    | false =>
     rw [if_neg (by simp), List.append_nil] at hs
     have HX9 := Hd hs
     clear hs
     go_wp2_with (go_at_call 130; refine HND9.out.mono ?_; rintro e w3 ⟨rfl, b3⟩; have HB3 := Hd b3; clear b3; go_wp2_with (go_at_call 100; refine (HN.out _ (to_ HBW.out HB3.out) _).mono ?_; rintro e w4 ⟨rfl, rfl⟩; rw [HO9.out]))
     go_roundw
     case rel => exact ⟨k + 1, by have := HLT.out; omega, by go_num, Hd (by rw [HX9.out]; exact own_on HOW.out HB3.out), Hd (to_ HBE.out HB3.out)⟩
     case measure => have := HLT.out; simp [intOf]; omega
   ·have h2I : ¬ (k : Int) < (qn : Int) := by omega
    have HE := Hd (show min cn qn = k by omega)
    go_wp2_with fail
    go_ret
    exact ⟨_, rfl, by rw [HE.out]; exact own_lower HOW.out HB0.out.size, HBW.out⟩
  ·have h1I : ¬ (k : Int) < (cn : Int) := by omega
   have HE := Hd (show min cn qn = k by omega)
   go_wp2_with fail
   go_ret
   exact ⟨_, rfl, by rw [HE.out]; exact own_lower HOW.out HB0.out.size, HBW.out⟩
def fewG (g : Gf) : Prop := g.F.code.2.1 ≤ 80 ∧ g.R.2.1 ≤ 80 ∧ g.F.kinds.2.1 ≤ 80 ∧ g.F.rel.2.1 ≤ 80 ∧ g.F.lines.2.1 ≤ 80
def fewD (g : Gd) : Prop := g.D.words.2.1 ≤ 80 ∧ g.R.2.1 ≤ 80 ∧ g.D.rel.2.1 ≤ 80
def FewA (w : World) (fn dn : Nat) (fs : List Gf) (ds : List Gd) (e : Ending) (w' : World) : Prop := ∃ b, e = .returned (.bool b) ∧ Below w.heap.size w w' ∧ (b = true → (∀ i, i < fn → fewG (gfAt fs i)) ∧ (∀ i, i < dn → fewD (gdAt ds i)) ∧ fn ≤ 24 ∧ dn ≤ 24)
set_option maxRecDepth 100000 in
set_option maxHeartbeats 8000000 in
theorem few25_any (w : World) (P : Pgm) (hfr : Wd 13 encGf w w.heap.size P.fA P.fn P.fc P.fs) (hdr : Wd 7 encGd w w.heap.size P.dA P.dn P.dc P.ds) :
  Calls Tryz.prog 13 #[pgV P] w (FewA w P.fn P.dn P.fs P.ds) := by
 have hfn : P.fn ≤ 9223372036854775807 := by have := hfr.2.1; have := hfr.2.2.1; unfold maxLen at this; omega
 have hdn : P.dn ≤ 9223372036854775807 := by have := hdr.2.1; have := hdr.2.2.1; unfold maxLen at this; omega
 have HGF := Hd (fun W (hb : Below w.heap.size w W) a (ha : a < P.fn) => gf_at (hfr.below hb) ha)
 have HGD := Hd (fun W (hb : Below w.heap.size w W) a (ha : a < P.dn) => gd_at (hdr.below hb) ha)
 clear hfr hdr
 obtain ⟨fA, fn, fc, fs, dA, dn, dc, ds, en, cs⟩ := P
 unfold pgV
 dsimp only at HGF HGD hfn hdn ⊢
 obtain ⟨W0, hW0⟩ : ∃ W0, w.alloc (.cells #[.slice fA fn fc, .slice dA dn dc, .int .i64 en] 29) = W0 := ⟨_, rfl⟩
 have HBW := Hd (show Below w.heap.size w W0 from by rw [← hW0]; exact alloc_ _ _)
 have HP0 := Hd (show Blk W0 w.heap.size 29 #[.slice fA fn fc, .slice dA dn dc, .int .i64 en] from by rw [← hW0]; exact Blk.new _ _ _)
 obtain ⟨b0, b1, b2⟩ := q3Z HP0.out
 have HBB := HBW
 go_enter Tryz.func13, Tryz.ntmps13
 go_wp2_with fail
 clear hW0 b0 b1 b2
 go_loopw [3] (fun i9 wr => ∃ a : Nat, a ≤ fn ∧ i9 = .int .i64 (a : Int) ∧ Hid (Below w.heap.size w wr) ∧ Hid (Blk wr w.heap.size 29 #[.slice fA fn fc, .slice dA dn dc, .int .i64 en]) ∧ Hid (∀ i, i < a → fewG (gfAt fs i))) (fun i9 _ => fn - (intOf i9).toNat)
 case atStart => exact ⟨0, Nat.zero_le _, rfl, HBW, HP0, Hd (fun i hi => by omega)⟩
 case round =>
  obtain ⟨a, ha, rfl, HBW, HPB, HFW⟩ := hrel
  have c0 : wr.cell? ⟨w.heap.size, 0, none⟩ = some (.slice fA fn fc) := HPB.out.cell 0
  by_cases hlt : a < fn
  ·have haI : (a : Int) < (fn : Int) := by omega
   have ha0 : (0 : Int) ≤ (a : Int) := by omega
   have HLT := Hd hlt
   obtain ⟨ad, rfl, hz9, f0, hfc⟩ := HGF.out wr HBW.out a hlt
   obtain ⟨g, hg⟩ : ∃ g, gfAt fs a = g := ⟨_, rfl⟩
   have HG := Hd hg
   rw [hg] at hfc
   clear f0 hg
   obtain ⟨file, item, nm, ⟨cl, ⟨kA, kn, kc⟩, pd, no, fr, tt, ⟨lA, ln, lc⟩, ⟨cA, cn, cc⟩, ⟨rA, rn, rc⟩⟩, ⟨qA, qn, qc⟩, refs⟩ := g
   have f4 := hfc 3 _ rfl
   have f9 := hfc 8 _ rfl
   have f10 := hfc 9 _ rfl
   have f11 := hfc 10 _ rfl
   have f12 := hfc 11 _ rfl
   unfold slV at f4 f9 f10 f11 f12
   dsimp only at f4 f9 f10 f11 f12
   clear hfc
   by_cases hgcn : 80 < cn
   ·have hIcn : (80 : Int) < ((cn : Nat) : Int) := by omega
    go_wp2_with fail
    go_ret
    exact ⟨false, rfl, HBW.out, fun e => by cases e⟩
   ·have hIcn : ¬ (80 : Int) < ((cn : Nat) : Int) := by omega
    by_cases hgqn : 80 < qn
    ·have hIqn : (80 : Int) < ((qn : Nat) : Int) := by omega
     go_wp2_with fail
     go_ret
     exact ⟨false, rfl, HBW.out, fun e => by cases e⟩
    ·have hIqn : ¬ (80 : Int) < ((qn : Nat) : Int) := by omega
     by_cases hgkn : 80 < kn
     ·have hIkn : (80 : Int) < ((kn : Nat) : Int) := by omega
      go_wp2_with fail
      go_ret
      exact ⟨false, rfl, HBW.out, fun e => by cases e⟩
     ·have hIkn : ¬ (80 : Int) < ((kn : Nat) : Int) := by omega
      by_cases hgrn : 80 < rn
      ·have hIrn : (80 : Int) < ((rn : Nat) : Int) := by omega
       go_wp2_with fail
       go_ret
       exact ⟨false, rfl, HBW.out, fun e => by cases e⟩
      ·have hIrn : ¬ (80 : Int) < ((rn : Nat) : Int) := by omega
       by_cases hgln : 80 < ln
       ·have hIln : (80 : Int) < ((ln : Nat) : Int) := by omega
        go_wp2_with fail
        go_ret
        exact ⟨false, rfl, HBW.out, fun e => by cases e⟩
       ·have hIln : ¬ (80 : Int) < ((ln : Nat) : Int) := by omega
        have HFG := Hd (show fewG ⟨file, item, nm, ⟨cl, (kA, kn, kc), pd, no, fr, tt, (lA, ln, lc), (cA, cn, cc), (rA, rn, rc)⟩, (qA, qn, qc), refs⟩ from by unfold fewG; dsimp only; omega)
        go_wp2_with fail
        go_roundw
        case rel => exact ⟨a + 1, by have := HLT.out; omega, by go_num, HBW, HPB, Hd (fun i hi => by
          by_cases e : i = a
          ·subst e; rw [HG.out]; exact HFG.out
          ·exact HFW.out i (by omega))⟩
        case measure => have := HLT.out; simp [intOf]; omega
  ·obtain rfl : fn = a := by omega
   go_wp2_with fail
   clear c0
   go_loopw [4] (fun i9 wr => ∃ a : Nat, a ≤ dn ∧ i9 = .int .i64 (a : Int) ∧ Hid (Below w.heap.size w wr) ∧ Hid (Blk wr w.heap.size 29 #[.slice fA fn fc, .slice dA dn dc, .int .i64 en]) ∧ Hid (∀ i, i < a → fewD (gdAt ds i))) (fun i9 _ => dn - (intOf i9).toNat)
   case atStart => exact ⟨0, Nat.zero_le _, rfl, HBW, HPB, Hd (fun i hi => by omega)⟩
   case round =>
    have HFF := HFW
    obtain ⟨a, ha, rfl, HBW, HPB, HFW⟩ := hrel
    have c0 := HPB.out.cell 0
    have c1 := HPB.out.cell 1
    by_cases hlt : a < dn
    ·have haI : (a : Int) < (dn : Int) := by omega
     have ha0 : (0 : Int) ≤ (a : Int) := by omega
     have HLT := Hd hlt
     obtain ⟨ad, rfl, hz9, f0, hfc⟩ := HGD.out _ HBW.out a hlt
     obtain ⟨g, hg⟩ : ∃ g, gdAt ds a = g := ⟨_, rfl⟩
     have HG := Hd hg
     rw [hg] at hfc
     clear f0 hg
     obtain ⟨file, item, nm, ⟨kd, ⟨kA, kn, kc⟩, ⟨rA, rn, rc⟩⟩, ⟨qA, qn, qc⟩, refs⟩ := g
     have f4 := hfc 3 _ rfl
     have f5 := hfc 4 _ rfl
     have f6 := hfc 5 _ rfl
     unfold slV at f4 f5 f6
     dsimp only at f4 f5 f6
     clear hfc
     by_cases hgkn : 80 < kn
     ·have hIkn : (80 : Int) < ((kn : Nat) : Int) := by omega
      go_wp2_with fail
      go_ret
      exact ⟨false, rfl, HBW.out, fun e => by cases e⟩
     ·have hIkn : ¬ (80 : Int) < ((kn : Nat) : Int) := by omega
      by_cases hgqn : 80 < qn
      ·have hIqn : (80 : Int) < ((qn : Nat) : Int) := by omega
       go_wp2_with fail
       go_ret
       exact ⟨false, rfl, HBW.out, fun e => by cases e⟩
      ·have hIqn : ¬ (80 : Int) < ((qn : Nat) : Int) := by omega
       by_cases hgrn : 80 < rn
       ·have hIrn : (80 : Int) < ((rn : Nat) : Int) := by omega
        go_wp2_with fail
        go_ret
        exact ⟨false, rfl, HBW.out, fun e => by cases e⟩
       ·have hIrn : ¬ (80 : Int) < ((rn : Nat) : Int) := by omega
        have HFD := Hd (show fewD ⟨file, item, nm, ⟨kd, (kA, kn, kc), (rA, rn, rc)⟩, (qA, qn, qc), refs⟩ from by unfold fewD; dsimp only; omega)
        go_wp2_with fail
        go_roundw
        case rel => exact ⟨a + 1, by have := HLT.out; omega, by go_num, HBW, HPB, Hd (fun i hi => by
          by_cases e : i = a
          ·subst e; rw [HG.out]; exact HFD.out
          ·exact HFW.out i (by omega))⟩
        case measure => have := HLT.out; simp [intOf]; omega
    ·obtain rfl : dn = a := by omega
     by_cases h1 : fn ≤ 24
     ·have h1I : (fn : Int) ≤ 24 := by omega
      by_cases h2 : dn ≤ 24
      ·have h2I : (dn : Int) ≤ 24 := by omega
       go_wp2_with fail
       go_ret
       exact ⟨true, rfl, HBW.out, fun _ => ⟨HFF.out, HFW.out, h1, h2⟩⟩
      ·have h2I : ¬ (dn : Int) ≤ 24 := by omega
       go_wp2_with fail
       go_ret
       exact ⟨false, rfl, HBW.out, fun e => by cases e⟩
     ·have h1I : ¬ (fn : Int) ≤ 24 := by omega
      go_wp2_with fail
      go_ret
      exact ⟨false, rfl, HBW.out, fun e => by cases e⟩
def FewB (e : Ending) (p : Prop) : Prop := ∃ b, e = .returned (.bool b) ∧ (b = true → p)
def okSl (x : Sl3) : Prop := x.2.1 ≤ 9223372036854775807
def okF (x : Fc) : Prop := okSl x.kinds ∧ okSl x.lines ∧ okSl x.code ∧ okSl x.rel
def okD (x : Dc) : Prop := okSl x.words ∧ okSl x.rel
def ltF (x : Fc) : Prop := x.kinds.2.1 ≤ 100 ∧ x.lines.2.1 ≤ 100 ∧ x.code.2.1 ≤ 100 ∧ x.rel.2.1 ≤ 100
def ltD (x : Dc) : Prop := x.words.2.1 ≤ 100 ∧ x.rel.2.1 ≤ 100
def ltO (o : Oj) : Prop := (o.n ≤ 60 ∧ o.fn ≤ 20 ∧ o.dn ≤ 20) ∧ (∀ k, k < o.n → (syAt o.l k).1.size ≤ 300) ∧ (∀ k, k < o.fn → ltF (fcAt o.fl k)) ∧ ∀ k, k < o.dn → ltD (dcAt o.dl k)
theorem fewL16 (x : Fc) (w : World) (h : okF x) :
  Calls Tryz.prog 70 #[.agg (encFc x).toArray] w fun e w' => FewB e (ltF x) ∧ Below w.heap.size w w' := by
 obtain ⟨x0, ⟨kA, kn, kc⟩, x2, x3, x4, x5, ⟨lA, ln, lc⟩, ⟨cA, cn, cc⟩, ⟨rA, rn, rc⟩⟩ := x
 unfold encFc slV
 unfold okF okSl at h
 unfold ltF
 dsimp only at h ⊢
 obtain ⟨hk, hl, hc, hr⟩ := h
 obtain ⟨bk, ek⟩ : ∃ b, decide ((kn : Int) ≤ 100) = b := ⟨_, rfl⟩
 obtain ⟨bl, el⟩ : ∃ b, decide ((ln : Int) ≤ 100) = b := ⟨_, rfl⟩
 obtain ⟨bc, ec⟩ : ∃ b, decide ((cn : Int) ≤ 100) = b := ⟨_, rfl⟩
 obtain ⟨br, er⟩ : ∃ b, decide ((rn : Int) ≤ 100) = b := ⟨_, rfl⟩
 have Fk := Hd (show bk = true → kn ≤ 100 from fun e => by subst e; have := of_decide_eq_true ek; omega)
 have Fl := Hd (show bl = true → ln ≤ 100 from fun e => by subst e; have := of_decide_eq_true el; omega)
 have Fc := Hd (show bc = true → cn ≤ 100 from fun e => by subst e; have := of_decide_eq_true ec; omega)
 have Fr := Hd (show br = true → rn ≤ 100 from fun e => by subst e; have := of_decide_eq_true er; omega)
 cases bk with
 | false =>
  go_enter Tryz.func70, Tryz.ntmps70
  go_wp2_with fail
  go_ret
  exact ⟨⟨_, rfl, fun e => by cases e⟩, (Below.refl _ _).alloc (Nat.le_refl _) _⟩
 | true =>
  cases bl with
  | false =>
   go_enter Tryz.func70, Tryz.ntmps70
   go_wp2_with fail
   go_ret
   exact ⟨⟨_, rfl, fun e => by cases e⟩, (Below.refl _ _).alloc (Nat.le_refl _) _⟩
  | true =>
   cases bc with
   | false =>
    go_enter Tryz.func70, Tryz.ntmps70
    go_wp2_with fail
    go_ret
    exact ⟨⟨_, rfl, fun e => by cases e⟩, (Below.refl _ _).alloc (Nat.le_refl _) _⟩
   | true =>
    go_enter Tryz.func70, Tryz.ntmps70
    go_wp2_with fail
    go_ret
    exact ⟨⟨_, rfl, fun e => ⟨Fk.out (by trivial), Fl.out (by trivial), Fc.out (by trivial), Fr.out e⟩⟩, (Below.refl _ _).alloc (Nat.le_refl _) _⟩
theorem fewL15 (x : Dc) (w : World) (h : okD x) :
  Calls Tryz.prog 71 #[.agg (encDc x).toArray] w fun e w' => FewB e (ltD x) ∧ Below w.heap.size w w' := by
 obtain ⟨x0, ⟨kA, kn, kc⟩, ⟨rA, rn, rc⟩⟩ := x
 unfold encDc slV
 unfold okD okSl at h
 unfold ltD
 dsimp only at h ⊢
 obtain ⟨hk, hr⟩ := h
 obtain ⟨bk, ek⟩ : ∃ b, decide ((kn : Int) ≤ 100) = b := ⟨_, rfl⟩
 obtain ⟨br, er⟩ : ∃ b, decide ((rn : Int) ≤ 100) = b := ⟨_, rfl⟩
 have Fk := Hd (show bk = true → kn ≤ 100 from fun e => by subst e; have := of_decide_eq_true ek; omega)
 have Fr := Hd (show br = true → rn ≤ 100 from fun e => by subst e; have := of_decide_eq_true er; omega)
 cases bk with
 | false =>
  go_enter Tryz.func71, Tryz.ntmps71
  go_wp2_with fail
  go_ret
  exact ⟨⟨_, rfl, fun e => by cases e⟩, (Below.refl _ _).alloc (Nat.le_refl _) _⟩
 | true =>
  go_enter Tryz.func71, Tryz.ntmps71
  go_wp2_with fail
  go_ret
  exact ⟨⟨_, rfl, fun e => ⟨Fk.out (by trivial), Fr.out e⟩⟩, (Below.refl _ _).alloc (Nat.le_refl _) _⟩
set_option maxRecDepth 100000 in
set_option maxHeartbeats 4000000 in
theorem fewL19 (w : World) (o : Oj) (h : OjL w o) (hfl : ∀ k, k < o.fn → okF (fcAt o.fl k)) (hdl : ∀ k, k < o.dn → okD (dcAt o.dl k)) :
  Calls Tryz.prog 36 #[.agg #[.slice o.A o.n o.c, .slice o.fA o.fn o.fc, .slice o.dA o.dn o.dc]] w fun e w' => FewB e (ltO o) ∧ Below w.heap.size w w' := by
 have HA := Hd h
 have hon := h.sy.few
 have hfn : o.fn ≤ 9223372036854775807 := by have h1 := h.fs.2.1; have h2 := h.fs.2.2.1; unfold maxLen at h2; omega
 have hdn : o.dn ≤ 9223372036854775807 := by have h1 := h.ds.2.1; have h2 := h.ds.2.2.1; unfold maxLen at h2; omega
 clear h
 obtain ⟨oA, on, oc, ol, fA, fn, fc, fl, dA, dn, dc, dl⟩ := o
 unfold ltO
 dsimp only at hfl hdl hon hfn hdn ⊢
 obtain ⟨W0, hW0⟩ : ∃ W0, w.alloc (.cells #[.slice oA on oc, .slice fA fn fc, .slice dA dn dc] 71) = W0 := ⟨_, rfl⟩
 have HB0 := Hd (show Below w.heap.size w W0 from hW0 ▸ (Below.refl _ _).alloc (Nat.le_refl _) _)
 have hbk : Blk W0 w.heap.size 71 #[.slice oA on oc, .slice fA fn fc, .slice dA dn dc] := hW0 ▸ Blk.new _ _ _
 have hlt := hbk.lt
 have HX := Hd (show ∀ W, Below W0.heap.size W0 W → W.cell? ⟨w.heap.size, 0, none⟩ = some (.slice oA on oc) ∧ W.cell? ⟨w.heap.size, 1, none⟩ = some (.slice fA fn fc) ∧ W.cell? ⟨w.heap.size, 2, none⟩ = some (.slice dA dn dc) from fun W hb => by
  have h2 : Blk W w.heap.size 71 #[.slice oA on oc, .slice fA fn fc, .slice dA dn dc] := hbk.below hb hlt
  exact ⟨h2.cell 0, h2.cell 1, h2.cell 2⟩)
 have HS := Hd (fun W (hb : Below W0.heap.size W0 W) k (hk : k < on) => (HA.out.on (to_ HB0.out hb)).sy.at_ hk)
 have HF := Hd (fun W (hb : Below W0.heap.size W0 W) k (hk : k < fn) => fc_at (HA.out.on (to_ HB0.out hb)).fs hk)
 have HD := Hd (fun W (hb : Below W0.heap.size W0 W) k (hk : k < dn) => dc_at (HA.out.on (to_ HB0.out hb)).ds hk)
 have HFL := Hd hfl
 have HDL := Hd hdl
 clear hbk hfl hdl hlt
 dsimp only at HS HF HD
 go_enter Tryz.func36, Tryz.ntmps36
 go_wp2_with fail
 go_loopw [3] (fun v wr => ∃ k : Nat, k ≤ on ∧ v = .int .i64 (k : Int) ∧ (∀ j, j < k → (syAt ol j).1.size ≤ 300) ∧ Below W0.heap.size W0 wr) (fun v _ => on - (intOf v).toNat)
 case atStart => exact ⟨0, Nat.zero_le _, rfl, fun j hj => by omega, Below.refl _ _⟩
 case round =>
  obtain ⟨k, hk, rfl, hno, hbel⟩ := hrel
  obtain ⟨x0, x1, x2⟩ := HX.out wr hbel
  have HBE := Hd (HB0.out.trans (hbel.mono HB0.out.size))
  by_cases hlt : k < on
  ·have hkI : (k : Int) < (on : Int) := by omega
   have hk0 : (0 : Int) ≤ (k : Int) := by omega
   obtain ⟨ad2, rfl, hb2, s0, -⟩ := HS.out wr hbel k hlt
   obtain ⟨y, hy⟩ : ∃ y, (syAt ol k).1 = y := ⟨_, rfl⟩
   rw [hy] at s0
   by_cases h3 : y.size ≤ 300
   ·have h3' : ¬ (300 : Int) < (y.size : Int) := by omega
    have HNO := Hd (show ∀ j, j < k + 1 → (syAt ol j).1.size ≤ 300 from fun j hj => by
     by_cases e : j = k
     ·subst e; rw [hy]; exact h3
     ·exact hno j (by omega))
    clear hno hy h3
    go_wp2_with fail
    go_roundw
    case rel => exact ⟨k + 1, by omega, by go_num, HNO.out, hbel⟩
    case measure => simp [intOf]; omega
   ·have h3' : (300 : Int) < (y.size : Int) := by omega
    clear hno hy h3
    go_wp2_with fail
    go_ret
    exact ⟨⟨false, rfl, fun h => by cases h⟩, HBE.out⟩
  ·obtain rfl : k = on := by omega
   have HNO := Hd hno
   have HBEL := Hd hbel
   clear hno hbel
   obtain ⟨wz, hwz⟩ : ∃ wz, wz = wr := ⟨_, rfl⟩
   subst hwz
   go_wp2_with fail
   go_loopw [4] (fun v wr => ∃ j : Nat, j ≤ fn ∧ j ≤ 20 ∧ v = .int .i64 (j : Int) ∧ Hid (∀ i, i < j → ltF (fcAt fl i)) ∧ Below W0.heap.size W0 wr) (fun v _ => fn - (intOf v).toNat)
   case atStart => exact ⟨0, Nat.zero_le _, by omega, rfl, Hd (fun i hi => by omega), HBEL.out⟩
   case round =>
    obtain ⟨j, hj, hj20, rfl, HFF, hbel⟩ := hrel
    clear x0 x1 x2
    obtain ⟨x0, x1, x2⟩ := HX.out wr hbel
    have HBE := Hd (HB0.out.trans (hbel.mono HB0.out.size))
    by_cases hjl : j < fn
    ·have hjI : (j : Int) < (fn : Int) := by omega
     have hj0 : (0 : Int) ≤ (j : Int) := by omega
     by_cases h20 : 20 ≤ j
     ·have h20' : (20 : Int) ≤ (j : Int) := by omega
      clear h20
      go_wp2_with fail
      go_ret
      exact ⟨⟨false, rfl, fun h => by cases h⟩, HBE.out⟩
     ·have h20' : ¬ (20 : Int) ≤ (j : Int) := by omega
      have HJ20 := Hd (show j + 1 ≤ 20 by omega)
      clear h20
      obtain ⟨ad2, rfl, hbx, c0, c1, c2, c3, c4, c5, c6, c7, c8⟩ := HF.out wr hbel j hjl
      have HC := Hd (fewL16 (fcAt fl j) wr (HFL.out j hjl))
      obtain ⟨x, hx⟩ : ∃ x, fcAt fl j = x := ⟨_, rfl⟩
      have HXE := Hd hx
      rw [hx] at c0 c1 c2 c3 c4 c5 c6 c7 c8 HC
      obtain ⟨z0, ⟨kA, kn, kc⟩, z2, z3, z4, z5, ⟨lA, ln, lc⟩, ⟨cA, cn, cc⟩, ⟨rA, rn, rc⟩⟩ := x
      unfold encFc at HC
      unfold slV at c1 c6 c7 c8 HC
      dsimp only at c0 c1 c2 c3 c4 c5 c6 c7 c8 HC
      have HBL := Hd hbel
      clear hx hbel
      go_wp2_with (go_at_call 70; refine HC.out.mono ?_; rintro e w2 ⟨⟨b, rfl, hb9⟩, hb2⟩; have HB2 := Hd hb2; have HB9 := Hd hb9; clear hb2 hb9; cases b)
      ·go_wp2_with fail
       go_ret
       exact ⟨⟨false, rfl, fun h => by cases h⟩, HBE.out.trans (HB2.out.mono HBE.out.size)⟩
      ·go_wp2_with fail
       go_roundw
       case rel => exact ⟨j + 1, by omega, HJ20.out, by go_num, Hd (fun i hi => by
        by_cases e : i = j
        ·subst e; rw [HXE.out]; exact HB9.out (by trivial)
        ·exact HFF.out i (by omega)), HBL.out.trans (HB2.out.mono HBL.out.size)⟩
       case measure => simp [intOf]; omega
    ·obtain rfl : j = fn := by omega
     have HBEL2 := Hd hbel
     have HJ20 := Hd hj20
     clear hbel hj20
     obtain ⟨wy, hwy⟩ : ∃ wy, wy = wr := ⟨_, rfl⟩
     subst hwy
     go_wp2_with fail
     go_loopw [5] (fun v wr => ∃ j : Nat, j ≤ dn ∧ j ≤ 20 ∧ v = .int .i64 (j : Int) ∧ Hid (∀ i, i < j → ltD (dcAt dl i)) ∧ Below W0.heap.size W0 wr) (fun v _ => dn - (intOf v).toNat)
     case atStart => exact ⟨0, Nat.zero_le _, by omega, rfl, Hd (fun i hi => by omega), HBEL2.out⟩
     case round =>
      obtain ⟨i, hi, hi20, rfl, HDD, hbel⟩ := hrel
      clear x0 x1 x2
      obtain ⟨x0, x1, x2⟩ := HX.out wr hbel
      have HBE := Hd (HB0.out.trans (hbel.mono HB0.out.size))
      by_cases hil : i < dn
      ·have hiI : (i : Int) < (dn : Int) := by omega
       have hi0 : (0 : Int) ≤ (i : Int) := by omega
       by_cases h20 : 20 ≤ i
       ·have h20' : (20 : Int) ≤ (i : Int) := by omega
        clear h20
        go_wp2_with fail
        go_ret
        exact ⟨⟨false, rfl, fun h => by cases h⟩, HBE.out⟩
       ·have h20' : ¬ (20 : Int) ≤ (i : Int) := by omega
        have HI20 := Hd (show i + 1 ≤ 20 by omega)
        clear h20
        obtain ⟨ad2, rfl, hbx, c0, c1, c2⟩ := HD.out wr hbel i hil
        have HC := Hd (fewL15 (dcAt dl i) wr (HDL.out i hil))
        obtain ⟨x, hx⟩ : ∃ x, dcAt dl i = x := ⟨_, rfl⟩
        have HXE := Hd hx
        rw [hx] at c0 c1 c2 HC
        obtain ⟨z0, ⟨kA, kn, kc⟩, ⟨rA, rn, rc⟩⟩ := x
        unfold encDc at HC
        unfold slV at c1 c2 HC
        dsimp only at c0 c1 c2 HC
        have HBL := Hd hbel
        clear hx hbel
        go_wp2_with (go_at_call 71; refine HC.out.mono ?_; rintro e w2 ⟨⟨b, rfl, hb9⟩, hb2⟩; have HB2 := Hd hb2; have HB9 := Hd hb9; clear hb2 hb9; cases b)
        ·go_wp2_with fail
         go_ret
         exact ⟨⟨false, rfl, fun h => by cases h⟩, HBE.out.trans (HB2.out.mono HBE.out.size)⟩
        ·go_wp2_with fail
         go_roundw
         case rel => exact ⟨i + 1, by omega, HI20.out, by go_num, Hd (fun m hm => by
          by_cases e : m = i
          ·subst e; rw [HXE.out]; exact HB9.out (by trivial)
          ·exact HDD.out m (by omega)), HBL.out.trans (HB2.out.mono HBL.out.size)⟩
         case measure => simp [intOf]; omega
      ·obtain rfl : i = dn := by omega
       obtain ⟨b, hb⟩ : ∃ b, decide ((k : Int) ≤ 60) = b := ⟨_, rfl⟩
       have HBB := Hd (show b = true → k ≤ 60 from fun e => by subst e; have := of_decide_eq_true hb; omega)
       have HI20 := Hd hi20
       clear hi20
       go_wp2_with fail
       go_ret
       exact ⟨⟨_, rfl, fun e => ⟨⟨HBB.out e, HJ20.out, HI20.out⟩, HNO.out, HFF.out, HDD.out⟩⟩, HBE.out⟩
set_option maxRecDepth 100000 in
set_option maxHeartbeats 2000000 in
theorem fewL24 (w : World) (A : Option Addr) (n c : Nat) (os : List Oj) (h : OjsL w A n c os) (hfl : ∀ i, i < n → ∀ k, k < (ojAt os i).fn → okF (fcAt (ojAt os i).fl k)) (hdl : ∀ i, i < n → ∀ k, k < (ojAt os i).dn → okD (dcAt (ojAt os i).dl k)) :
  Calls Tryz.prog 9 #[.slice A n c] w fun e w' => FewB e (n ≤ 9 ∧ ∀ i, i < n → ltO (ojAt os i)) ∧ Below w.heap.size w w' := by
 have hn : n ≤ 9223372036854775807 := by have h1 := h.wd.2.1; have h2 := h.wd.2.2.1; unfold maxLen at h2; omega
 have HO := Hd h
 have HFL := Hd hfl
 have HDL := Hd hdl
 clear h hfl hdl
 go_enter Tryz.func9, Tryz.ntmps9
 go_wp2_with fail
 go_loopw [3] (fun v wr => ∃ k : Nat, k ≤ n ∧ v = .int .i64 (k : Int) ∧ Hid (∀ i, i < k → ltO (ojAt os i)) ∧ Below w.heap.size w wr) (fun v _ => n - (intOf v).toNat)
 case atStart => exact ⟨0, Nat.zero_le _, rfl, Hd (fun j hj => by omega), Below.refl _ _⟩
 case round =>
  obtain ⟨k, hk, rfl, HNO, hbel⟩ := hrel
  have HBE := Hd hbel
  clear hbel
  by_cases hlt : k < n
  ·have hkI : (k : Int) < (n : Int) := by omega
   have hk0 : (0 : Int) ≤ (k : Int) := by omega
   obtain ⟨ad, rfl, hb, c0, c1, c2⟩ := (HO.out.on HBE.out).at_ hlt
   have HC := Hd (fewL19 wr (ojAt os k) (((HO.out.on HBE.out)).each k hlt) (HFL.out k hlt) (HDL.out k hlt))
   obtain ⟨o, ho⟩ : ∃ o, ojAt os k = o := ⟨_, rfl⟩
   have HO2 := Hd ho
   rw [ho] at c0 c1 c2 HC
   obtain ⟨oA, on, oc, ol, fA, fn, fc, fl, dA, dn, dc, dl⟩ := o
   dsimp only at c0 c1 c2 HC
   clear ho
   go_wp2_with (go_at_call 36; refine HC.out.mono ?_; rintro e w2 ⟨⟨b, rfl, hb3⟩, hb2⟩; have HB2 := Hd hb2; have HB3 := Hd hb3; clear hb2 hb3; cases b)
   ·go_wp2_with fail
    go_ret
    exact ⟨⟨false, rfl, fun h => by cases h⟩, HBE.out.trans (HB2.out.mono HBE.out.size)⟩
   ·go_wp2_with fail
    go_roundw
    case rel =>
     refine ⟨k + 1, by omega, by go_num, Hd (fun i hi => ?_), HBE.out.trans (HB2.out.mono HBE.out.size)⟩
     by_cases e : i = k
     ·subst e
      rw [HO2.out]
      exact HB3.out (by trivial)
     ·exact HNO.out i (by omega)
    case measure => simp [intOf]; omega
  ·obtain rfl : k = n := by omega
   obtain ⟨b, hb⟩ : ∃ b, decide ((k : Int) ≤ 9) = b := ⟨_, rfl⟩
   have HBB := Hd (show b = true → k ≤ 9 from fun e => by subst e; have := of_decide_eq_true hb; omega)
   go_wp2_with fail
   go_ret
   exact ⟨⟨_, rfl, fun e => ⟨HBB.out e, HNO.out⟩⟩, HBE.out⟩
end Go.Proofs.YtdaimeaofgbfpaaGreat.Bo
