/-
 PROGRAMS TO BE READ. WALK of layer 25's document: refs.
-/
import Derived.Test.YtnenmgefgdpkdaaGreatZa
import Derived.Test.YtnenmgefgdpkdaaGreatQk
namespace Go.Proofs.YtnenmgefgdpkdaaGreat.Bo
open Go.RowKit Go.Maps
open Mem Rf
set_option linter.unusedSimpArgs false
set_option linter.unusedVariables false
def gf0 : Gf := ⟨0, 0, ⟨#[]⟩, fc0, (none, 0, 0), []⟩
def gd0 : Gd := ⟨0, 0, ⟨#[]⟩, dc0, (none, 0, 0), []⟩
def gfAt (l : List Gf) (i : Nat) : Gf := l.getD i gf0
def gdAt (l : List Gd) (i : Nat) : Gd := l.getD i gd0
theorem gfAt_some {l : List Gf} {i : Nat} (h : i < l.length) : l[i]? = some (gfAt l i) := by unfold gfAt; rw [List.getD_eq_getElem?_getD, List.getElem?_eq_getElem h]; rfl
theorem gdAt_some {l : List Gd} {i : Nat} (h : i < l.length) : l[i]? = some (gdAt l i) := by unfold gdAt; rw [List.getD_eq_getElem?_getD, List.getElem?_eq_getElem h]; rfl
/-- A function's code and numbers, to be read. -/
structure GfR (w : World) (g : Gf) (cs : List By.In5) : Prop where
 code : By.InL w g.F.code.1 g.F.code.2.1 g.F.code.2.2 cs
 refs : IL w g.R.1 g.R.2.1 g.R.2.2 g.refs
 few : g.F.code.2.1 ≤ 80 ∧ g.R.2.1 ≤ 80
 bd : ∀ k, -9223372036854775808 ≤ (By.inAt cs k).1 ∧ (By.inAt cs k).1 ≤ 9223372036854775807
structure GdR (w : World) (g : Gd) : Prop where
 refs : IL w g.R.1 g.R.2.1 g.R.2.2 g.refs
 few : g.D.words.2.1 ≤ 80 ∧ g.R.2.1 ≤ g.D.words.2.1
theorem GfR.on {w w' : World} {g : Gf} {cs : List By.In5} (h : GfR w g cs) (hb : Below w.heap.size w w') : GfR w' g cs := ⟨(By.Wd.below h.code hb).more hb.size, h.refs.on hb, h.few, h.bd⟩
theorem GdR.on {w w' : World} {g : Gd} (h : GdR w g) (hb : Below w.heap.size w w') : GdR w' g := ⟨h.refs.on hb, h.few⟩
/-- A program to be read. -/
structure Pgm where
 fA : Option Addr
 fn : Nat
 fc : Nat
 fs : List Gf
 dA : Option Addr
 dn : Nat
 dc : Nat
 ds : List Gd
 entry : Int
 cs : Nat → List By.In5
def pgV (P : Pgm) : Value := .agg #[.slice P.fA P.fn P.fc, .slice P.dA P.dn P.dc, .int .i64 P.entry]
structure PgR (w : World) (P : Pgm) : Prop where
 fr : Wd 13 encGf w w.heap.size P.fA P.fn P.fc P.fs
 dr : Wd 7 encGd w w.heap.size P.dA P.dn P.dc P.ds
 fns : ∀ i, i < P.fn → GfR w (gfAt P.fs i) (P.cs i)
 dats : ∀ i, i < P.dn → GdR w (gdAt P.ds i)
 few : P.fn ≤ 24 ∧ P.dn ≤ 24
theorem PgR.on {w w' : World} {P : Pgm} (h : PgR w P) (hb : Below w.heap.size w w') : PgR w' P := ⟨(h.fr.below hb).more hb.size, (h.dr.below hb).more hb.size, fun i hi => (h.fns i hi).on hb, fun i hi => (h.dats i hi).on hb, h.few⟩
/-- The cells of a program's function, at the addresses that the walk reckons. -/
theorem gf_at {w : World} {B : Nat} {A : Option Addr} {n c : Nat} {l : List Gf} (h : Wd 13 encGf w B A n c l) {i : Nat} (hi : i < n) :
  ∃ ad, A = some ad ∧ ad.block < B ∧ w.cell? (ad.add (i * 13)) = some (.int .i64 ((gfAt l i).file : Int)) ∧ ∀ j u, (encGf (gfAt l i))[j + 1]? = some u → w.cell? ⟨(ad.add (i * 13)).block, (ad.add (i * 13)).off + (j + 1), none⟩ = some u := by
 obtain ⟨ad, e, hb, hc⟩ := h.2.2.2.2 i _ (gfAt_some (by rw [h.1]; exact hi))
 exact ⟨ad, e, hb, hc 0 _ rfl, fun j u hu => by rw [← add_field _ (j + 1) (by omega)]; exact hc (j + 1) u hu⟩
theorem gd_at {w : World} {B : Nat} {A : Option Addr} {n c : Nat} {l : List Gd} (h : Wd 7 encGd w B A n c l) {i : Nat} (hi : i < n) :
  ∃ ad, A = some ad ∧ ad.block < B ∧ w.cell? (ad.add (i * 7)) = some (.int .i64 ((gdAt l i).file : Int)) ∧ ∀ j u, (encGd (gdAt l i))[j + 1]? = some u → w.cell? ⟨(ad.add (i * 7)).block, (ad.add (i * 7)).off + (j + 1), none⟩ = some u := by
 obtain ⟨ad, e, hb, hc⟩ := h.2.2.2.2 i _ (gdAt_some (by rw [h.1]; exact hi))
 exact ⟨ad, e, hb, hc 0 _ rfl, fun j u hu => by rw [← add_field _ (j + 1) (by omega)]; exact hc (j + 1) u hu⟩
/-- An instruction's cells. -/
theorem in_at {w : World} {A : Option Addr} {n c : Nat} {cs : List By.In5} (h : By.InL w A n c cs) {i : Nat} (hi : i < n) :
  ∃ ad, A = some ad ∧ ad.block < w.heap.size ∧ w.cell? (ad.add (i * 5)) = some (.int .i64 (By.inAt cs i).1) ∧ w.cell? ⟨(ad.add (i * 5)).block, (ad.add (i * 5)).off + 1, none⟩ = some (.int .i64 (By.inAt cs i).2.1) ∧ w.cell? ⟨(ad.add (i * 5)).block, (ad.add (i * 5)).off + 2, none⟩ = some (.int .i64 (By.inAt cs i).2.2.1) ∧ w.cell? ⟨(ad.add (i * 5)).block, (ad.add (i * 5)).off + 3, none⟩ = some (.int .i64 (By.inAt cs i).2.2.2.1) ∧ w.cell? ⟨(ad.add (i * 5)).block, (ad.add (i * 5)).off + 4, none⟩ = some (.int .i64 (By.inAt cs i).2.2.2.2) := by
 have hl : i < cs.length := by rw [h.1]; exact hi
 obtain ⟨ad, e, hb, hc⟩ := h.2.2.2.2 i (By.inAt cs i) (by unfold By.inAt; rw [List.getD_eq_getElem?_getD, List.getElem?_eq_getElem hl]; rfl)
 have f : ∀ j, 0 < j → (ad.add (i * 5)).add j = ⟨(ad.add (i * 5)).block, (ad.add (i * 5)).off + j, none⟩ := fun j hj => add_field _ j hj
 refine ⟨ad, e, hb, hc 0 _ rfl, ?_, ?_, ?_, ?_⟩
 ·rw [← f 1 (by omega)]; exact hc 1 _ rfl
 ·rw [← f 2 (by omega)]; exact hc 2 _ rfl
 ·rw [← f 3 (by omega)]; exact hc 3 _ rfl
 ·rw [← f 4 (by omega)]; exact hc 4 _ rfl
def gatV (g : Gf) (cs : List By.In5) (ns : List Int) : List Int := gatL cs g.refs (okN ns) (min g.F.code.2.1 g.R.2.1)
set_option maxRecDepth 100000 in
set_option maxHeartbeats 4000000 in
theorem refs_any (w : World) (g : Gf) (cs : List By.In5) (h : GfR w g cs) (An : Option Addr) (m cm : Nat) (ns : List Int) (hns : IL w An m cm ns) (hm : m ≤ 100) :
  Calls Tryz.prog 102 #[.agg (encGf g).toArray, .slice An m cm] w (IOwn w (gatV g cs ns)) := by
 obtain ⟨iN, hiN, hzN0, hzN1, hzN2⟩ := info_split infoInt
 have HC := Lib.hid (fun W (hb : Below w.heap.size w W) i (hi : i < g.F.code.2.1) => in_at (h.on hb).code hi)
 have HR := Lib.hid (fun W (hb : Below w.heap.size w W) i (hi : i < g.R.2.1) => (h.on hb).refs.at_ hi)
 have HN := Lib.hid (fun W (hb : Below w.heap.size w W) x => in_any W An m cm ns x (hns.on hb) (by omega))
 have HND := Lib.hid (fun W k => By.rneed_any (By.inAt cs k).1 (h.bd k).1 (h.bd k).2 W)
 have HS := Lib.hid (fun k => gatL_succ cs g.refs (okN ns) k)
 have HL := Lib.hid (fun k => gatL_len cs g.refs (okN ns) k)
 have hfw := h.few
 clear h hns
 obtain ⟨file, item, nm, ⟨cl, ⟨kA, kn, kc⟩, pd, no, fr, tt, ⟨lA, ln, lc⟩, ⟨cA, cn, cc⟩, ⟨rA, rn, rc⟩⟩, ⟨qA, qn, qc⟩, refs⟩ := g
 unfold gatV IOwn encGf slV
 dsimp only at HC HR HS HL hfw ⊢
 obtain ⟨ok, hok⟩ : ∃ x, okN ns = x := ⟨_, rfl⟩
 have HOK := Lib.hid (show ∀ x, ok x = ns.contains (By.ndV x.1) from fun x => by rw [← hok]; rfl)
 rw [hok] at HS HL ⊢
 clear hok
 obtain ⟨W0, hW0⟩ : ∃ W0, w.alloc (.cells #[.int .i64 (file : Int), .int .i64 (item : Int), .string nm, .int .i64 cl, .slice kA kn kc, .int .i64 pd, .bool no, .int .i64 fr, .int .i64 tt, .slice lA ln lc, .slice cA cn cc, .slice rA rn rc, .slice qA qn qc] 49) = W0 := ⟨_, rfl⟩
 have HB0 := Lib.hid (show Below w.heap.size w W0 from by rw [← hW0]; exact alloc_ _ _)
 have hbk : Blk W0 w.heap.size 49 #[.int .i64 (file : Int), .int .i64 (item : Int), .string nm, .int .i64 cl, .slice kA kn kc, .int .i64 pd, .bool no, .int .i64 fr, .int .i64 tt, .slice lA ln lc, .slice cA cn cc, .slice rA rn rc, .slice qA qn qc] := by rw [← hW0]; exact Blk.new _ _ _
 have HX := Lib.hid (fun W (hb : Below W0.heap.size W0 W) => show W.cell? ⟨w.heap.size, 10, none⟩ = some (.slice cA cn cc) ∧ W.cell? ⟨w.heap.size, 12, none⟩ = some (.slice qA qn qc) from ⟨(hbk.below hb hbk.lt).cell 10, (hbk.below hb hbk.lt).cell 12⟩)
 clear hbk
 obtain ⟨x10, x12⟩ := HX.out W0 (Below.refl _ _)
 go_enter Tryz.func102, Tryz.ntmps102
 go_wp2_with fail
 clear hW0 x10 x12
 go_loopw [5, 6] (fun v9 i9 wr => ∃ k : Nat, k ≤ min cn qn ∧ i9 = .int .i64 (k : Int) ∧ Hid (wr.ownsRow W0.heap.size 3 1 v9 (gatL cs refs ok k).length ((gatL cs refs ok k).flatMap encI)) ∧ Hid (Below W0.heap.size W0 wr)) (fun _ i9 _ => (min cn qn) - (intOf i9).toNat)
 case atStart => exact ⟨0, Nat.zero_le _, rfl, Lib.hid (World.ownsRow_nil _ _ _ _), Lib.hid (Below.refl _ _)⟩
 case round =>
  obtain ⟨k, hk, rfl, HOW, HBE⟩ := hrel
  obtain ⟨x10, x12⟩ := HX.out wr HBE.out
  have HBW := Lib.hid (to_ HB0.out HBE.out)
  by_cases h1 : k < cn
  ·have h1I : (k : Int) < (cn : Int) := by omega
   by_cases h2 : k < qn
   ·have h2I : (k : Int) < (qn : Int) := by omega
    have hk0 : (0 : Int) ≤ (k : Int) := by omega
    have HLT := Lib.hid (show k < min cn qn by omega)
    obtain ⟨ad, rfl, hz1, z0, -⟩ := HC.out wr HBW.out k h1
    have HND9 := Lib.hid (HND.out wr k)
    have hs := HS.out k
    have hl9 := HL.out k
    have ho9 := HOK.out (By.inAt cs k)
    obtain ⟨b, hb⟩ : ∃ b, ok (By.inAt cs k) = b := ⟨_, rfl⟩
    rw [hb] at hs ho9
    obtain ⟨op, hop⟩ : ∃ x, (By.inAt cs k).1 = x := ⟨_, rfl⟩
    rw [hop] at z0 HND9 ho9
    obtain ⟨nd, hnd⟩ : ∃ x, By.ndV op = x := ⟨_, rfl⟩
    rw [hnd] at HND9 ho9
    have HO9 := Lib.hid ho9.symm
    clear hb hop hnd ho9
    obtain ⟨q, hq⟩ : ∃ q, (gatL cs refs ok k).length = q := ⟨_, rfl⟩
    have HW := Lib.hid (show wr.ownsRow W0.heap.size 3 1 u5 q ((gatL cs refs ok k).flatMap encI) from by rw [← hq]; exact HOW.out)
    have HQ := Lib.hid hq
    rw [hq] at hl9
    clear hq
    cases b with
    | true =>
     rw [if_pos rfl] at hs
     have HX9 := Lib.hid hs
     obtain ⟨rz, hrz⟩ : ∃ x, refs.getD k 0 = x := ⟨_, rfl⟩
     rw [hrz] at HX9
     have HRZ := Lib.hid hrz
     clear hs hrz
     go_wp2_with (go_at_call 133; refine HND9.out.mono ?_; rintro e w3 ⟨rfl, b3⟩; have HB3 := Lib.hid b3; clear b3; go_wp2_with (go_at_call 108; refine (HN.out _ (to_ HBW.out HB3.out) _).mono ?_; rintro e w4 ⟨rfl, rfl⟩; rw [HO9.out]; obtain ⟨y10, y12⟩ := HX.out w3 (to_ HBE.out HB3.out); obtain ⟨rd, rfl, hz2, r0⟩ := HR.out w3 (to_ HBW.out HB3.out) k h2; rw [HRZ.out] at r0; go_wp2_with (at_builtin; go_loud (refine wpList_append_own _ rfl _ _ 42 rfl W0.heap.size 3 iN (.int .i64 0) 1 8 Tryz.underlying42 hiN hzN0 hzN1 hzN2 rfl (by decide) _ q ((gatL cs refs ok k).flatMap encI) rfl (own_on HW.out (to_ HB3.out (alloc_ _ _))) ⟨w3.heap.size, 0, none⟩ 1 1 [.int .i64 rz] rfl rfl (one_new w3 _ 3) (by simp [Value.oneCell']) (by unfold maxLen; omega) (by omega) (by have := HBE.out.size; have := HB3.out.size; simp; omega) ?_; intro v' w' h2 h3 _; have H2 := Lib.hid h2; have H3 := Lib.hid h3; clear h2 h3))))
     go_roundw
     case rel => exact ⟨k + 1, by have := HLT.out; omega, by go_num, Lib.hid (by rw [HX9.out, List.length_append, HQ.out, flatI]; exact H2.out), Lib.hid ((to_ HBE.out (to_ HB3.out (alloc_ _ _))).grown H3.out (to_ HBE.out (to_ HB3.out (alloc_ _ _))).size fun r e => (HW.out.lt r e).1)⟩
     case measure => have := HLT.out; simp [intOf]; omega
    | false =>
     rw [if_neg (by simp), List.append_nil] at hs
     have HX9 := Lib.hid hs
     clear hs
     go_wp2_with (go_at_call 133; refine HND9.out.mono ?_; rintro e w3 ⟨rfl, b3⟩; have HB3 := Lib.hid b3; clear b3; go_wp2_with (go_at_call 108; refine (HN.out _ (to_ HBW.out HB3.out) _).mono ?_; rintro e w4 ⟨rfl, rfl⟩; rw [HO9.out]))
     go_roundw
     case rel => exact ⟨k + 1, by have := HLT.out; omega, by go_num, Lib.hid (by rw [HX9.out]; exact own_on HOW.out HB3.out), Lib.hid (to_ HBE.out HB3.out)⟩
     case measure => have := HLT.out; simp [intOf]; omega
   ·have h2I : ¬ (k : Int) < (qn : Int) := by omega
    have HE := Lib.hid (show min cn qn = k by omega)
    go_wp2_with fail
    go_ret
    exact ⟨_, rfl, by rw [HE.out]; exact own_lower HOW.out HB0.out.size, HBW.out⟩
  ·have h1I : ¬ (k : Int) < (cn : Int) := by omega
   have HE := Lib.hid (show min cn qn = k by omega)
   go_wp2_with fail
   go_ret
   exact ⟨_, rfl, by rw [HE.out]; exact own_lower HOW.out HB0.out.size, HBW.out⟩
end Go.Proofs.YtnenmgefgdpkdaaGreat.Bo
