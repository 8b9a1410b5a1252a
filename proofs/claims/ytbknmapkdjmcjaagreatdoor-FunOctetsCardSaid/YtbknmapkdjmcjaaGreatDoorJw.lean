/-
  WALKS of layer 16: the fixed calls. WALKS of layer 16: the fixed calls. WALK of layer 16: the fixed calls.
-/
import Derived.Test.YtbknmapkdjmcjaaGreatDoorJe
import Derived.Test.YtbknmapkdjmcjaaGreatDoorJg
import Derived.Test.YtbknmapkdjmcjaaGreatDoorJn
import Derived.Test.YtbknmapkdjmcjaaGreatDoorJp
namespace Go.Proofs.YtbknmapkdjmcjaaGreatDoor.By
open Go.RowKit
open Mem Gm Rf
set_option linter.unusedSimpArgs false
set_option linter.unusedVariables false

def kF : Fn := ⟨3, [0, 1], 5, false, 0, 0, [(0, 7), (1, 9)], [(1, 0, 0, 0, 0), (24, 0, 0, 0, 0)], []⟩
def kG : Fn := ⟨3, [0, 1], 5, false, 0, 3, [(0, 7), (1, 9)], [(1, 0, 0, 0, 0), (24, 0, 0, 0, 0)], []⟩
def kH : Fn := ⟨8, [], 0, false, 0, 0, [], [], []⟩
theorem opd0 (k : Nat) : opdV 0 0 0 0 k = 0 := by
  unfold opdV
  simp
theorem ch0 (o : Int) (h : 1 ≤ o ∧ o ≤ 28) : chV o 0 0 0 0 = 0 :=
  ch_ok h (fun k hk => by rcases quad k hk with rfl | rfl | rfl | rfl <;> (unfold inV; decide)) fun k hk => fun ha => ha.2 (opd0 k)
theorem kcd (x : Fn) (h : x.cs = kF.cs) : cdV x = 0 := by
  have hf : flowV kF.cs = 0 := by
    unfold flowV chk
    rw [if_neg (by decide), if_neg (by decide), if_neg]
    rintro ⟨i, hi, h⟩
    have hi2 : i = 0 ∨ i = 1 := by have : kF.cs.length = 2 := rfl; omega
    rcases hi2 with rfl | rfl
    · revert h; decide +kernel
    · revert h; decide +kernel
  unfold cdV
  rw [h, hf, if_neg (by simp)]
  have e : kF.cs = [(1, 0, 0, 0, 0), (24, 0, 0, 0, 0)] := rfl
  rw [e, codL, codL, codL]
  simp only [ch0 1 (by decide), ch0 24 (by decide)]
  decide
theorem kc1 : chF kF = 0 := by
  unfold chF
  rw [kcd kF rfl, show frV kF = 0 by decide +kernel, show rgV kF = 0 by decide +kernel, show lnV9 kF = 0 by decide +kernel, show rfV9 kF = 0 by decide +kernel]
  decide
theorem kc2 : chF kG = 9 := by
  unfold chF
  rw [kcd kG rfl, show frV kG = 0 by decide +kernel, show rgV kG = 9 by decide +kernel]
  simp [firN]
theorem kc3 : chF kH = 14 := by
  unfold chF
  rw [show frV kH = 14 by decide +kernel]
  simp [firN]
theorem kfr : frmV kF = 7 := by decide +kernel
theorem kl0 : lineV 0 kF.ls 0 = 7 := by decide +kernel
theorem kl5 : lineV 5 kF.ls 0 = 9 := by decide +kernel
def kB16 : List UInt8 := fnB kF
theorem klen16 : kB16.length = 34 := by decide +kernel
theorem kget : geV kB16 (0, true) = kF ∧ geE kB16 (0, true) = 0 := by
  have e7 : fq7 kB16 ((0, true), 0) = ((16, true), 0) := by decide +kernel
  have i0 : inV5 kB16 ((17, true), 0) = (1, 0, 0, 0, 0) ∧ inS5 kB16 ((17, true), 0) = ((25, true), 0) := by
    have hf : fitsB kB16 17 true 8 = true := by decide +kernel
    have h1 : xrO kB16 17 = 1 := by decide +kernel
    have h2 : xrA kB16 17 = 0 := by decide +kernel
    have h3 : xrB kB16 17 = 0 := by decide +kernel
    have h4 : xrC kB16 17 = 0 := by decide +kernel
    have h5 : xrN kB16 17 = 0 := by decide +kernel
    have hp : pgS kB16 (17, true) 8 = (25, true) := by decide +kernel
    unfold inV5 inS5 gotE
    dsimp only
    rw [h1, h2, h3, h4, h5, ch0 1 (by decide), if_pos ⟨hf, rfl⟩, if_pos hf, hp]
    exact ⟨rfl, rfl⟩
  have i1 : inV5 kB16 ((25, true), 0) = (24, 0, 0, 0, 0) ∧ inS5 kB16 ((25, true), 0) = ((33, true), 0) := by
    have hf : fitsB kB16 25 true 8 = true := by decide +kernel
    have h1 : xrO kB16 25 = 24 := by decide +kernel
    have h2 : xrA kB16 25 = 0 := by decide +kernel
    have h3 : xrB kB16 25 = 0 := by decide +kernel
    have h4 : xrC kB16 25 = 0 := by decide +kernel
    have h5 : xrN kB16 25 = 0 := by decide +kernel
    have hp : pgS kB16 (25, true) 8 = (33, true) := by decide +kernel
    unfold inV5 inS5 gotE
    dsimp only
    rw [h1, h2, h3, h4, h5, ch0 24 (by decide), if_pos ⟨hf, rfl⟩, if_pos hf, hp]
    exact ⟨rfl, rfl⟩
  have n7 : (nvS kB16 ((16, true), 0) 1).toNat = 2 := by decide +kernel
  have w7 : wdS kB16 ((16, true), 0) 1 = ((17, true), 0) := by decide +kernel
  have e8 : fq8 kB16 ((0, true), 0) = ((33, true), 0) := by
    unfold fq8 sevS
    rw [e7, n7, w7, itS, itS, itS, i0.2, i1.2]
  have c8 : sevV inV5 inS5 kB16 ((16, true), 0) = [(1, 0, 0, 0, 0), (24, 0, 0, 0, 0)] := by
    unfold sevV vls
    rw [n7, w7]
    rw [show List.range 2 = [0, 1] from rfl, List.map_cons, List.map_cons, List.map_nil, itS, itS, itS, i0.2, i0.1, i1.1]
  have e9 : fq9 kB16 ((0, true), 0) = ((34, true), 0) := by
    unfold fq9
    rw [e8]
    decide +kernel
  have r9 : sevV rfV rfS kB16 ((33, true), 0) = [] := by decide +kernel
  unfold geV geE
  rw [e9]
  refine ⟨?_, rfl⟩
  rw [if_pos rfl]
  unfold fuV
  rw [e7, e8, c8, r9]
  have a1 : nvS kB16 ((0, true), 0) 1 = 3 := by decide +kernel
  have a2 : sevV nmV1 nmS1 kB16 (fq1 kB16 ((0, true), 0)) = [0, 1] := by decide +kernel
  have a3 : nvS kB16 (fq2 kB16 ((0, true), 0)) 2 = 5 := by decide +kernel
  have a4 : fgV kB16 (fq3 kB16 ((0, true), 0)) = false := by decide +kernel
  have a5 : nvS kB16 (fq4 kB16 ((0, true), 0)) 1 = 0 := by decide +kernel
  have a6 : nvS kB16 (fq5 kB16 ((0, true), 0)) 1 = 0 := by decide +kernel
  have a7 : sevV lnV lnS kB16 (fq6 kB16 ((0, true), 0)) = [(0, 7), (1, 9)] := by decide +kernel
  rw [a1, a2, a3, a4, a5, a6, a7]
  rfl
end Go.Proofs.YtbknmapkdjmcjaaGreatDoor.By

namespace Go.Proofs.YtbknmapkdjmcjaaGreatDoor.By
open Go.RowKit
open Mem Gm Rf
set_option linter.unusedSimpArgs false
set_option linter.unusedVariables false

theorem wd_lit {α : Type} {k : Nat} {enc : α → List Value} {w : World} {b : Nat} {t : TypeId} {cs : Array Value} (hk : ∀ x, (enc x).length = k) (l : List α) (n : Nat) (hn : l.length = n) (hm : n ≤ 1000) (hb : Blk w b t cs) (hc : cs.toList = l.flatMap enc) : Wd k enc w w.heap.size (some ⟨b, 0, none⟩) n n l :=
  ⟨hn, Nat.le_refl _, by unfold maxLen; omega, nofun, fun i x hi => ⟨_, rfl, hb.lt, fun j u hu => by
    rw [add_twice, add_plain, Nat.zero_add, hb.cell, ← Array.getElem?_toList, hc]
    exact flat_at hk l i x j u hi hu⟩⟩
def PlA (w : World) (e : Ending) (w' : World) : Prop := ∃ AK cK AL cL AC cC AR cR, e = .returned (.agg #[.int .i64 3, .slice AK 2 cK, .int .i64 5, .bool false, .int .i64 0, .int .i64 0, .slice AL 2 cL, .slice AC 2 cC, .slice AR 0 cR]) ∧ FnW w' AK 2 cK AL 2 cL AC 2 cC AR 0 cR kF ∧ Below w.heap.size w w'
set_option maxRecDepth 100000 in
set_option maxHeartbeats 4000000 in
theorem plain_any (w : World) : Calls Tryz.prog 57 #[] w (PlA w) := by
  obtain ⟨W0, hW0⟩ : ∃ W0, (((w.alloc (.cells #[.int .i64 0, .slice none 0 0, .int .i64 0, .bool false, .int .i64 0, .int .i64 0, .slice none 0 0, .slice none 0 0, .slice none 0 0] 27)).alloc (.cells #[.int .i64 0, .int .i64 1] 3)).alloc (.cells #[.int .i64 0, .int .i64 7, .int .i64 1, .int .i64 9] 85)).alloc (.cells #[.int .i64 1, .int .i64 0, .int .i64 0, .int .i64 0, .int .i64 0, .int .i64 24, .int .i64 0, .int .i64 0, .int .i64 0, .int .i64 0] 94) = W0 := ⟨_, rfl⟩
  have s1 : (w.alloc (.cells #[.int .i64 0, .slice none 0 0, .int .i64 0, .bool false, .int .i64 0, .int .i64 0, .slice none 0 0, .slice none 0 0, .slice none 0 0] 27)).heap.size = w.heap.size + 1 := World.size_alloc _ _
  have s2 : ((w.alloc (.cells #[.int .i64 0, .slice none 0 0, .int .i64 0, .bool false, .int .i64 0, .int .i64 0, .slice none 0 0, .slice none 0 0, .slice none 0 0] 27)).alloc (.cells #[.int .i64 0, .int .i64 1] 3)).heap.size = w.heap.size + 2 := by rw [World.size_alloc, s1]
  have s3 : (((w.alloc (.cells #[.int .i64 0, .slice none 0 0, .int .i64 0, .bool false, .int .i64 0, .int .i64 0, .slice none 0 0, .slice none 0 0, .slice none 0 0] 27)).alloc (.cells #[.int .i64 0, .int .i64 1] 3)).alloc (.cells #[.int .i64 0, .int .i64 7, .int .i64 1, .int .i64 9] 85)).heap.size = w.heap.size + 3 := by rw [World.size_alloc, s2]
  have hz : Blk W0 w.heap.size 27 #[.int .i64 0, .slice none 0 0, .int .i64 0, .bool false, .int .i64 0, .int .i64 0, .slice none 0 0, .slice none 0 0, .slice none 0 0] := by rw [← hW0]; exact (((Blk.new w _ _).alloc _).alloc _).alloc _
  have hk : Blk W0 (w.heap.size + 1) 3 #[.int .i64 0, .int .i64 1] := by rw [← hW0, ← s1]; exact ((Blk.new _ _ _).alloc _).alloc _
  have hl : Blk W0 (w.heap.size + 2) 85 #[.int .i64 0, .int .i64 7, .int .i64 1, .int .i64 9] := by rw [← hW0, ← s2]; exact (Blk.new _ _ _).alloc _
  have hc : Blk W0 (w.heap.size + 3) 94 #[.int .i64 1, .int .i64 0, .int .i64 0, .int .i64 0, .int .i64 0, .int .i64 24, .int .i64 0, .int .i64 0, .int .i64 0, .int .i64 0] := by rw [← hW0, ← s3]; exact Blk.new _ _ _
  have HB := Lib.hid (show Below w.heap.size w W0 from by rw [← hW0]; exact to_ (to_ (to_ (alloc_ _ _) (alloc_ _ _)) (alloc_ _ _)) (alloc_ _ _))
  have HZ := Lib.hid hz
  have HBL := Lib.hid (show Blk W0 (w.heap.size + 1) 3 #[.int .i64 0, .int .i64 1] ∧ Blk W0 (w.heap.size + 2) 85 #[.int .i64 0, .int .i64 7, .int .i64 1, .int .i64 9] ∧ Blk W0 (w.heap.size + 3) 94 #[.int .i64 1, .int .i64 0, .int .i64 0, .int .i64 0, .int .i64 0, .int .i64 24, .int .i64 0, .int .i64 0, .int .i64 0, .int .i64 0] from ⟨hk, hl, hc⟩)
  obtain ⟨b0, b1, b2, b3, b4, b5, b6, b7, b8⟩ := blk9 hz
  obtain ⟨g0, g1, g2, g3, g4, g5, g6, g7, g8⟩ := blk9f hz
  clear hz hk hl hc s1 s2 s3
  go_enter Tryz.func57, Tryz.ntmps57
  go_wp2_with fail
  clear hW0 b0 b1 b2 b3 b4 b5 b6 b7 b8 g0 g1 g2 g3 g4 g5 g6 g7 g8
  obtain ⟨W9, hW9⟩ : ∃ W9, set9 W0 w.heap.size (.int .i64 3) (.slice (some ⟨w.heap.size + 1, 0, none⟩) 2 2) (.int .i64 5) (.bool false) (.int .i64 0) (.int .i64 0) (.slice (some ⟨w.heap.size + 2, 0, none⟩) 2 2) (.slice (some ⟨w.heap.size + 3, 0, none⟩) 2 2) (.slice none 0 0) = W9 := ⟨_, rfl⟩
  have hon := set9_only W0 w.heap.size (.int .i64 3) (.slice (some ⟨w.heap.size + 1, 0, none⟩) 2 2) (.int .i64 5) (.bool false) (.int .i64 0) (.int .i64 0) (.slice (some ⟨w.heap.size + 2, 0, none⟩) 2 2) (.slice (some ⟨w.heap.size + 3, 0, none⟩) 2 2) (.slice none 0 0)
  have hbk := blk_set9 (.int .i64 3) (.slice (some ⟨w.heap.size + 1, 0, none⟩) 2 2) (.int .i64 5) (.bool false) (.int .i64 0) (.int .i64 0) (.slice (some ⟨w.heap.size + 2, 0, none⟩) 2 2) (.slice (some ⟨w.heap.size + 3, 0, none⟩) 2 2) (.slice none 0 0) HZ.out
  rw [hW9] at hon hbk
  unfold set9 at hW9
  rw [hW9]
  obtain ⟨k0', k1, k2, k3, k4, k5, k6, k7, k8⟩ := blk9 hbk
  refine bodyPost_ret (v := .agg #[.int .i64 3, .slice (some ⟨w.heap.size + 1, 0, none⟩) 2 2, .int .i64 5, .bool false, .int .i64 0, .int .i64 0, .slice (some ⟨w.heap.size + 2, 0, none⟩) 2 2, .slice (some ⟨w.heap.size + 3, 0, none⟩) 2 2, .slice none 0 0]) (by simp [results, Tryz.results57, go_sem, k0', k1, k2, k3, k4, k5, k6, k7, k8]) rfl ?_
  obtain ⟨hk, hl, hc⟩ := HBL.out
  have hk9 := blk_only hk hon (by omega)
  have hl9 := blk_only hl hon (by omega)
  have hc9 := blk_only hc hon (by omega)
  exact ⟨_, _, _, _, _, _, _, _, rfl, ⟨IW.lit [0, 1] 2 hk9 rfl rfl (by decide), rfl, wd_lit encLn_len _ 2 rfl (by decide) hl9 rfl, wd_lit encIn_len _ 2 rfl (by decide) hc9 rfl, Wd.nil⟩,
    HB.out.grown hon HB.out.size (fun r e => by injection e; omega)⟩
end Go.Proofs.YtbknmapkdjmcjaaGreatDoor.By

namespace Go.Proofs.YtbknmapkdjmcjaaGreatDoor.By
open Go.RowKit
open Mem Gm Rf
set_option linter.unusedSimpArgs false
set_option linter.unusedVariables false

theorem putK (w : World) (AK : Option Addr) (cK : Nat) (AL : Option Addr) (cL : Nat) (AC : Option Addr) (cC : Nat) (AR : Option Addr) (cR : Nat) (h : FnW w AK 2 cK AL 2 cL AC 2 cC AR 0 cR kF) :
    Calls Tryz.prog 22 #[.slice none 0 0, .agg #[.int .i64 3, .slice AK 2 cK, .int .i64 5, .bool false, .int .i64 0, .int .i64 0, .slice AL 2 cL, .slice AC 2 cC, .slice AR 0 cR]] w fun e w' => ∃ A c, e = .returned (.slice A 34 c) ∧ SlV w' w'.heap.size (.slice A 34 c) (u8s kB16) ∧ Below w.heap.size w w' := by
  refine (putF_any w none 0 0 [] AK AL AC AR 2 cK 2 cL 2 cC 0 cR kF rfl .nil (by omega) h (by omega) (by omega) (by omega) (by omega)).mono fun e w' hh => ?_
  obtain ⟨A, c, h3, h4, h5⟩ := hh
  have h9 := klen16
  unfold kB16 at h9
  rw [List.nil_append, h9] at h3 h4
  exact ⟨A, c, h3, h4, h5⟩
theorem newK (w : World) (v : Value) (h : SlV w w.heap.size v (u8s kB16)) : Calls Tryz.prog 24 #[v] w (Made w kB16) := new_any v kB16 w _ h (Nat.le_trans (Nat.le_of_eq klen16) (by decide))
theorem getK (w : World) (g : Nat) (A : Option Addr) (c : Nat) (h : Rdr w g A c kB16 0 true) (ht : TX3 w) (hg : 3 ≤ g) :
    Calls Tryz.prog 25 #[.pointer (some ⟨g, 0, none⟩)] w fun e w' => ∃ BK dK BL dL BC dC BR dR, e = .returned (.tuple #[.agg #[.int .i64 3, .slice BK 2 dK, .int .i64 5, .bool false, .int .i64 0, .int .i64 0, .slice BL 2 dL, .slice BC 2 dC, .slice BR 0 dR], .int .i64 0]) ∧ FnW w' BK 2 dK BL 2 dL BC 2 dC BR 0 dR kF ∧ w.grownBy w' (some g) := by
  have hgl := h.blk.lt
  refine (getF_any w (some ⟨g, 0, none⟩) (some g) A c kB16 (0, true) (.inl ⟨g, rfl, rfl, h⟩) ht.1 (fun x e => by injection e with e; subst e; exact ⟨hg, hgl⟩) (by omega)).mono fun e w' hh => ?_
  obtain ⟨BK, dK, BL, dL, BC, dC, BR, dR, h1, h2, h3, h4⟩ := hh
  rw [kget.1, kget.2] at h1
  rw [kget.1] at h2
  exact ⟨BK, dK, BL, dL, BC, dC, BR, dR, h1, h2, h4⟩

theorem kg_of {w : World} {AK AL AC AR : Option Addr} {cK cL cC cR : Nat} (h : FnW w AK 2 cK AL 2 cL AC 2 cC AR 0 cR kF) : FnW w AK 2 cK AL 2 cL AC 2 cC AR 0 cR kG := ⟨h.hk, h.hkl, h.hl, h.hc, h.hr⟩
set_option maxRecDepth 100000 in
set_option maxHeartbeats 8000000 in
theorem known16_any (w : World) (ht : TX3 w) (h3 : 3 ≤ w.heap.size) : Calls Tryz.prog 15 #[] w (TAns w) := by
  have HP := Lib.hid (plain_any w)
  have HT := Lib.hid ht
  have H3 := Lib.hid h3
  clear ht h3
  go_enter Tryz.func15, Tryz.ntmps15
  go_wp2_with fail
  refine HP.out.mono ?_
  rintro e w1 ⟨AK, cK, AL, cL, AC, cC, AR, cR, rfl, hf, hb⟩
  have HB1 := Lib.hid hb
  obtain ⟨W1, hW1⟩ : ∃ W1, w1.alloc (.cells #[.int .i64 3, .slice AK 2 cK, .int .i64 5, .bool false, .int .i64 0, .int .i64 0, .slice AL 2 cL, .slice AC 2 cC, .slice AR 0 cR] 27) = W1 := ⟨_, rfl⟩
  have HBW := Lib.hid (show Below w.heap.size w W1 from by rw [← hW1]; exact to_ hb (alloc_ _ _))
  have HF := Lib.hid (show ∀ W, Below W1.heap.size W1 W → FnW W AK 2 cK AL 2 cL AC 2 cC AR 0 cR kF from fun W hb2 => by
    have : FnW W1 AK 2 cK AL 2 cL AC 2 cC AR 0 cR kF := by rw [← hW1]; exact hf.on (alloc_ _ _)
    exact this.on hb2)
  have hk : Blk W1 w1.heap.size 27 #[.int .i64 3, .slice AK 2 cK, .int .i64 5, .bool false, .int .i64 0, .int .i64 0, .slice AL 2 cL, .slice AC 2 cC, .slice AR 0 cR] := by rw [← hW1]; exact Blk.new w1 _ _
  have HX := Lib.hid (show ∀ W, Below W1.heap.size W1 W → Blk W w1.heap.size 27 #[.int .i64 3, .slice AK 2 cK, .int .i64 5, .bool false, .int .i64 0, .int .i64 0, .slice AL 2 cL, .slice AC 2 cC, .slice AR 0 cR] from fun W hb2 => hk.below hb2 hk.lt)
  have HTW := Lib.hid (show ∀ W, Below W1.heap.size W1 W → TX3 W from fun W hb2 => HT.out.on (to_ HBW.out hb2))
  have HSZ := Lib.hid (show 3 ≤ W1.heap.size from by have := HBW.out.size; have := H3.out; omega)
  obtain ⟨c0, c1, c2, c3, c4, c5, c6, c7, c8⟩ := blk9 hk
  clear hf hb hk
  go_wp2_with fail
  clear hW1
  refine (putK W1 AK cK AL cL AC cC AR cR (HF.out W1 (Below.refl _ _))).mono ?_
  rintro e w2 ⟨A2, c2', rfl, hs2, hb2⟩
  have HS2 := Lib.hid hs2
  have HB2 := Lib.hid hb2
  clear hs2 hb2
  go_wp2_with fail
  refine (newK w2 _ HS2.out).mono ?_
  rintro e w3 ⟨g, A3, c3', rfl, hg3, hr3, hb3⟩
  have HB3 := Lib.hid (to_ HB2.out hb3)
  have HG3 := Lib.hid (show W1.heap.size ≤ g from by have := HB2.out.size; omega)
  have HR3 := Lib.hid hr3
  clear hg3 hr3 hb3
  go_wp2_with fail
  refine (getK w3 g A3 c3' HR3.out (HTW.out w3 HB3.out) (by have := HG3.out; have := HSZ.out; omega)).mono ?_
  rintro e w4 ⟨BK, dK, BL, dL, BC, dC, BR, dR, rfl, hx4, hg4⟩
  have HB4 := Lib.hid (show Below W1.heap.size W1 w4 from HB3.out.grown hg4 HB3.out.size (fun r e => by injection e with e; have := HG3.out; omega))
  have HX4 := Lib.hid hx4
  clear hx4 hg4 c0 c1 c2 c3 c4 c5 c6 c7 c8
  obtain ⟨c0, c1, c2, c3, c4, c5, c6, c7, c8⟩ := blk9 (HX.out w4 HB4.out)
  obtain ⟨W5, hW5⟩ : ∃ W5, w4.alloc (.cells #[.int .i64 3, .slice BK 2 dK, .int .i64 5, .bool false, .int .i64 0, .int .i64 0, .slice BL 2 dL, .slice BC 2 dC, .slice BR 0 dR] 27) = W5 := ⟨_, rfl⟩
  have hsz : W5.heap.size = w4.heap.size + 1 := by rw [← hW5]; exact World.size_alloc _ _
  have HB5 := Lib.hid (show Below W1.heap.size W1 W5 from by rw [← hW5]; exact to_ HB4.out (alloc_ _ _))
  have hb5 : Blk W5 w4.heap.size 27 #[.int .i64 3, .slice BK 2 dK, .int .i64 5, .bool false, .int .i64 0, .int .i64 0, .slice BL 2 dL, .slice BC 2 dC, .slice BR 0 dR] := by rw [← hW5]; exact Blk.new w4 _ _
  have hx5 : FnW W5 BK 2 dK BL 2 dL BC 2 dC BR 0 dR kF := by rw [← hW5]; exact HX4.out.on (alloc_ _ _)
  clear c0 c1 c2 c3 c4 c5 c6 c7 c8
  obtain ⟨p0, p1, p2, p3, p4, p5, p6, p7, p8⟩ := blk9 (HX.out W5 HB5.out)
  obtain ⟨W6, hW6⟩ : ∃ W6, W5.alloc (.cells #[.int .i64 3, .slice AK 2 cK, .int .i64 5, .bool false, .int .i64 0, .int .i64 3, .slice AL 2 cL, .slice AC 2 cC, .slice AR 0 cR] 27) = W6 := ⟨_, rfl⟩
  have HB6 := Lib.hid (show Below W1.heap.size W1 W6 from by rw [← hW6]; exact to_ HB5.out (alloc_ _ _))
  have hkx : Blk W6 w4.heap.size 27 #[.int .i64 3, .slice BK 2 dK, .int .i64 5, .bool false, .int .i64 0, .int .i64 0, .slice BL 2 dL, .slice BC 2 dC, .slice BR 0 dR] := by rw [← hW6]; exact hb5.alloc _
  have hkg : Blk W6 W5.heap.size 27 #[.int .i64 3, .slice AK 2 cK, .int .i64 5, .bool false, .int .i64 0, .int .i64 3, .slice AL 2 cL, .slice AC 2 cC, .slice AR 0 cR] := by rw [← hW6]; exact Blk.new _ _ _
  have HKX := Lib.hid (show ∀ W, Below W6.heap.size W6 W → Blk W w4.heap.size 27 #[.int .i64 3, .slice BK 2 dK, .int .i64 5, .bool false, .int .i64 0, .int .i64 0, .slice BL 2 dL, .slice BC 2 dC, .slice BR 0 dR] ∧ Blk W W5.heap.size 27 #[.int .i64 3, .slice AK 2 cK, .int .i64 5, .bool false, .int .i64 0, .int .i64 3, .slice AL 2 cL, .slice AC 2 cC, .slice AR 0 cR] from fun W hb => ⟨hkx.below hb hkx.lt, hkg.below hb hkg.lt⟩)
  have HX6 := Lib.hid (show ∀ W, Below W6.heap.size W6 W → FnW W BK 2 dK BL 2 dL BC 2 dC BR 0 dR kF from fun W hb => by
    have : FnW W6 BK 2 dK BL 2 dL BC 2 dC BR 0 dR kF := by rw [← hW6]; exact hx5.on (alloc_ _ _)
    exact this.on hb)
  have HHS := Lib.hid hsz
  clear hsz hb5 hx5 HB4 HX4
  obtain ⟨c0, c1, c2, c3, c4, c5, c6, c7, c8⟩ := blk9 (HX.out W6 HB6.out)
  obtain ⟨d0, d1, d2, d3, d4, d5, d6, d7, d8⟩ := blk9 hkx
  obtain ⟨g0, g1, g2, g3, g4, g5, g6, g7, g8⟩ := blk9 hkg
  clear hkx hkg
  go_wp2_with fail
  clear p0 p1 p2 p3 p4 p5 p6 p7 p8
  clear hW6 hW5
  have HC0 := Lib.hid (show Calls Tryz.prog 16 #[.agg #[.int .i64 3, .slice AK 2 cK, .int .i64 5, .bool false, .int .i64 0, .int .i64 0, .slice AL 2 cL, .slice AC 2 cC, .slice AR 0 cR]] W6 (CAns W6 0) from by have h := (chkF_any W6 AK AL AC AR 2 cK 2 cL 2 cC 0 cR kF (HF.out W6 HB6.out) (HTW.out W6 HB6.out) ⟨by omega, by omega, by omega, by omega⟩); rw [kc1] at h; exact h)
  unfold CAns at HC0
  refine HC0.out.mono ?_
  rintro e v0 ⟨rfl, b⟩
  have HV0 := Lib.hid (show Below W6.heap.size W6 v0 from b)
  clear b c0 c1 c2 c3 c4 c5 c6 c7 c8 d0 d1 d2 d3 d4 d5 d6 d7 d8 g0 g1 g2 g3 g4 g5 g6 g7 g8
  obtain ⟨c0, c1, c2, c3, c4, c5, c6, c7, c8⟩ := blk9 (HX.out v0 (to_ HB6.out HV0.out))
  obtain ⟨d0, d1, d2, d3, d4, d5, d6, d7, d8⟩ := blk9 (HKX.out v0 HV0.out).1
  obtain ⟨g0, g1, g2, g3, g4, g5, g6, g7, g8⟩ := blk9 (HKX.out v0 HV0.out).2
  go_wp2_with fail
  have HC1 := Lib.hid (show Calls Tryz.prog 16 #[.agg #[.int .i64 3, .slice AK 2 cK, .int .i64 5, .bool false, .int .i64 0, .int .i64 3, .slice AL 2 cL, .slice AC 2 cC, .slice AR 0 cR]] v0 (CAns v0 9) from by have h := (chkF_any v0 AK AL AC AR 2 cK 2 cL 2 cC 0 cR kG (kg_of (HF.out v0 (to_ HB6.out HV0.out))) (HTW.out v0 (to_ HB6.out HV0.out)) ⟨by omega, by omega, by omega, by omega⟩); rw [kc2] at h; exact h)
  unfold CAns at HC1
  refine HC1.out.mono ?_
  rintro e v1 ⟨rfl, b⟩
  have HV1 := Lib.hid (show Below W6.heap.size W6 v1 from to_ HV0.out b)
  clear b c0 c1 c2 c3 c4 c5 c6 c7 c8 d0 d1 d2 d3 d4 d5 d6 d7 d8 g0 g1 g2 g3 g4 g5 g6 g7 g8
  obtain ⟨c0, c1, c2, c3, c4, c5, c6, c7, c8⟩ := blk9 (HX.out v1 (to_ HB6.out HV1.out))
  obtain ⟨d0, d1, d2, d3, d4, d5, d6, d7, d8⟩ := blk9 (HKX.out v1 HV1.out).1
  obtain ⟨g0, g1, g2, g3, g4, g5, g6, g7, g8⟩ := blk9 (HKX.out v1 HV1.out).2
  go_wp2_with fail
  have HC2 := Lib.hid (show Calls Tryz.prog 16 #[.agg #[.int .i64 8, .slice none 0 0, .int .i64 0, .bool false, .int .i64 0, .int .i64 0, .slice none 0 0, .slice none 0 0, .slice none 0 0]] v1 (CAns v1 14) from by have h := (chkF_any v1 none none none none 0 0 0 0 0 0 0 0 kH ⟨.nil, rfl, Wd.nil, Wd.nil, Wd.nil⟩ (HTW.out v1 (to_ HB6.out HV1.out)) ⟨by omega, by omega, by omega, by omega⟩); rw [kc3] at h; exact h)
  unfold CAns at HC2
  refine HC2.out.mono ?_
  rintro e v2 ⟨rfl, b⟩
  have HV2 := Lib.hid (show Below W6.heap.size W6 v2 from to_ HV1.out b)
  clear b c0 c1 c2 c3 c4 c5 c6 c7 c8 d0 d1 d2 d3 d4 d5 d6 d7 d8 g0 g1 g2 g3 g4 g5 g6 g7 g8
  obtain ⟨c0, c1, c2, c3, c4, c5, c6, c7, c8⟩ := blk9 (HX.out v2 (to_ HB6.out HV2.out))
  obtain ⟨d0, d1, d2, d3, d4, d5, d6, d7, d8⟩ := blk9 (HKX.out v2 HV2.out).1
  obtain ⟨g0, g1, g2, g3, g4, g5, g6, g7, g8⟩ := blk9 (HKX.out v2 HV2.out).2
  go_wp2_with fail
  have HC3 := Lib.hid (show Calls Tryz.prog 18 #[.agg #[.int .i64 3, .slice AK 2 cK, .int .i64 5, .bool false, .int .i64 0, .int .i64 0, .slice AL 2 cL, .slice AC 2 cC, .slice AR 0 cR]] v2 (CAns v2 7) from by have h := (frameF_any v2 AK AL AC AR 2 cK 2 cL 2 cC 0 cR kF (HF.out v2 (to_ HB6.out HV2.out)) ⟨by omega, by omega, by omega, by omega⟩); rw [kfr] at h; exact h)
  unfold CAns at HC3
  refine HC3.out.mono ?_
  rintro e v3 ⟨rfl, b⟩
  have HV3 := Lib.hid (show Below W6.heap.size W6 v3 from to_ HV2.out b)
  clear b c0 c1 c2 c3 c4 c5 c6 c7 c8 d0 d1 d2 d3 d4 d5 d6 d7 d8 g0 g1 g2 g3 g4 g5 g6 g7 g8
  obtain ⟨c0, c1, c2, c3, c4, c5, c6, c7, c8⟩ := blk9 (HX.out v3 (to_ HB6.out HV3.out))
  obtain ⟨d0, d1, d2, d3, d4, d5, d6, d7, d8⟩ := blk9 (HKX.out v3 HV3.out).1
  obtain ⟨g0, g1, g2, g3, g4, g5, g6, g7, g8⟩ := blk9 (HKX.out v3 HV3.out).2
  go_wp2_with fail
  have HC4 := Lib.hid (show Calls Tryz.prog 20 #[.agg #[.int .i64 3, .slice AK 2 cK, .int .i64 5, .bool false, .int .i64 0, .int .i64 0, .slice AL 2 cL, .slice AC 2 cC, .slice AR 0 cR], .int .i64 0] v3 (CAns v3 7) from by have h := (lineF_any v3 AK AL AC AR 2 cK 2 cL 2 cC 0 cR kF (HF.out v3 (to_ HB6.out HV3.out)) ⟨by omega, by omega, by omega, by omega⟩ 0); rw [kl0] at h; exact h)
  unfold CAns at HC4
  refine HC4.out.mono ?_
  rintro e v4 ⟨rfl, b⟩
  have HV4 := Lib.hid (show Below W6.heap.size W6 v4 from to_ HV3.out b)
  clear b c0 c1 c2 c3 c4 c5 c6 c7 c8 d0 d1 d2 d3 d4 d5 d6 d7 d8 g0 g1 g2 g3 g4 g5 g6 g7 g8
  obtain ⟨c0, c1, c2, c3, c4, c5, c6, c7, c8⟩ := blk9 (HX.out v4 (to_ HB6.out HV4.out))
  obtain ⟨d0, d1, d2, d3, d4, d5, d6, d7, d8⟩ := blk9 (HKX.out v4 HV4.out).1
  obtain ⟨g0, g1, g2, g3, g4, g5, g6, g7, g8⟩ := blk9 (HKX.out v4 HV4.out).2
  go_wp2_with fail
  have HC5 := Lib.hid (show Calls Tryz.prog 20 #[.agg #[.int .i64 3, .slice AK 2 cK, .int .i64 5, .bool false, .int .i64 0, .int .i64 0, .slice AL 2 cL, .slice AC 2 cC, .slice AR 0 cR], .int .i64 5] v4 (CAns v4 9) from by have h := (lineF_any v4 AK AL AC AR 2 cK 2 cL 2 cC 0 cR kF (HF.out v4 (to_ HB6.out HV4.out)) ⟨by omega, by omega, by omega, by omega⟩ 5); rw [kl5] at h; exact h)
  unfold CAns at HC5
  refine HC5.out.mono ?_
  rintro e v5 ⟨rfl, b⟩
  have HV5 := Lib.hid (show Below W6.heap.size W6 v5 from to_ HV4.out b)
  clear b c0 c1 c2 c3 c4 c5 c6 c7 c8 d0 d1 d2 d3 d4 d5 d6 d7 d8 g0 g1 g2 g3 g4 g5 g6 g7 g8
  obtain ⟨c0, c1, c2, c3, c4, c5, c6, c7, c8⟩ := blk9 (HX.out v5 (to_ HB6.out HV5.out))
  obtain ⟨d0, d1, d2, d3, d4, d5, d6, d7, d8⟩ := blk9 (HKX.out v5 HV5.out).1
  obtain ⟨g0, g1, g2, g3, g4, g5, g6, g7, g8⟩ := blk9 (HKX.out v5 HV5.out).2
  go_wp2_with fail
  refine (show Calls Tryz.prog 27 #[.agg #[.int .i64 3, .slice BK 2 dK, .int .i64 5, .bool false, .int .i64 0, .int .i64 0, .slice BL 2 dL, .slice BC 2 dC, .slice BR 0 dR], .agg #[.int .i64 3, .slice AK 2 cK, .int .i64 5, .bool false, .int .i64 0, .int .i64 0, .slice AL 2 cL, .slice AC 2 cC, .slice AR 0 cR]] v5 (TAns v5) from sameF_same v5 BK BL BC BR AK AL AC AR 2 dK 2 dL 2 dC 0 dR cK cL cC cR kF (HX6.out v5 HV5.out) (HF.out v5 (to_ HB6.out HV5.out)) (by omega) (by omega) (by omega) (by omega)).mono ?_
  rintro e v9 ⟨rfl, b⟩
  have HV9 := Lib.hid (show Below W1.heap.size W1 v9 from to_ (to_ HB6.out HV5.out) b)
  clear b c0 c1 c2 c3 c4 c5 c6 c7 c8 d0 d1 d2 d3 d4 d5 d6 d7 d8 g0 g1 g2 g3 g4 g5 g6 g7 g8
  go_wp2_with fail
  go_ret
  exact ⟨rfl, to_ HBW.out HV9.out⟩
end Go.Proofs.YtbknmapkdjmcjaaGreatDoor.By
