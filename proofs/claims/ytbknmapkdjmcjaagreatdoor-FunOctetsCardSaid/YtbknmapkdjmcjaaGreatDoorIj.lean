/-
  WALK of layer 8: Get.
-/
import Derived.Test.YtbknmapkdjmcjaaGreatDoorIh
import Derived.Test.YtbknmapkdjmcjaaGreatDoorId
namespace Go.Proofs.YtbknmapkdjmcjaaGreatDoor.By
open Go.ChangeShapes Go.WideShapes Go.ChangeAt Go.RowKit
open Mem

theorem Txs.only {w w' : World} (h : Txs w) {g : Nat} (hg : w.grownBy w' (some g)) (h2 : 3 ≤ g) : Txs w' :=
  ⟨fun i hi => (World.cell?_of_block (hg.block 2 (World.block_lt_of_cell? w _ (h.1 i hi)) (fun e => by injection e; omega))).trans (h.1 i hi),
   fun i hi => (World.cell?_of_block (hg.block 0 (World.block_lt_of_cell? w _ (h.2 i hi)) (fun e => by injection e; omega))).trans (h.2 i hi)⟩

/-- A block of the call's own is written. -/
theorem only_own {a w : World} {g G : Nat} (h : a.grownBy w (some g)) (hG : a.heap.size ≤ G) (i : Nat) (u : Value) : a.grownBy (w.setCell ⟨G, i, none⟩ u) (some g) :=
  ⟨h.os, h.tape, h.output, by simpa [World.setCell] using h.size, fun k hk hne => (Below.heap_setCell w ⟨G, i, none⟩ u k (fun e => by subst e; exact absurd hk (Nat.not_lt.2 hG))).trans (h.block k hk hne)⟩

theorem Rdr.own {w : World} {g G : Nat} {A : Option Addr} {c : Nat} {l : List UInt8} {p : Nat} {good : Bool} (h : Rdr w g A c l p good) (hgG : g < G) (i : Nat) (u : Value) : Rdr (w.setCell ⟨G, i, none⟩ u) g A c l p good :=
  h.only (only_set (only_refl _ G) i u) hgG

noncomputable def gotE (l : List UInt8) (p : Nat) (good : Bool) : Int := if fitsB l p good 8 = true then chV (xrO l p) (xrA l p) (xrB l p) (xrC l p) (xrN l p) else 5
noncomputable def gotI (l : List UInt8) (p : Nat) (good : Bool) : Array Value :=
  if fitsB l p good 8 = true ∧ chV (xrO l p) (xrA l p) (xrB l p) (xrC l p) (xrN l p) = 0 then insC (xrO l p) (xrA l p) (xrB l p) (xrC l p) (xrN l p) else insC 0 0 0 0 0

/-- What Get leaves. -/
def Got (w : World) (g : Nat) (A : Option Addr) (c : Nat) (l : List UInt8) (p : Nat) (good : Bool) (e : Ending) (w' : World) : Prop :=
  e = .returned (.tuple #[.agg (gotI l p good), .int .i64 (gotE l p good)]) ∧ Rdr w' g A c l (readP l p good 8) (fitsB l p good 8) ∧ w.grownBy w' (some g)

theorem getn_any (w : World) : Calls Tryz.prog 229 #[.pointer none] w fun e w' => e = .returned (.tuple #[.agg (insC 0 0 0 0 0), .int .i64 5]) ∧ Below w.heap.size w w' := by
  have HN := Lib.hid (fun w => num_nil w 8)
  go_enter Tryz.func229, Tryz.ntmps229
  go_wp2_with fail
  refine (bad_nil _).mono ?_
  rintro e w' ⟨rfl, rfl⟩
  go_wp2_with fail
  refine (HN.out _).mono ?_
  rintro e w' ⟨rfl, rfl⟩
  go_wp2_with fail
  refine bodyPost_ret (v := .tuple #[.agg (insC 0 0 0 0 0), .int .i64 5]) ?_ rfl ⟨rfl, ?_⟩
  · simp [insC, results, Tryz.results229, go_sem]
  · exact (Below.refl _ _).alloc (Nat.le_refl _) _

set_option maxHeartbeats 4000000 in
theorem get_no (w : World) (g : Nat) (A : Option Addr) (c : Nat) (l : List UInt8) (p : Nat) (good : Bool) (h : Rdr w g A c l p good) (hf : fitsB l p good 8 = false) :
    Calls Tryz.prog 229 #[.pointer (some ⟨g, 0, none⟩)] w (Got w g A c l p good) := by
  have hgl := h.blk.lt
  have HG := Lib.hid (show gotI l p good = insC 0 0 0 0 0 ∧ gotE l p good = 5 from ⟨by unfold gotI; rw [hf]; simp, by unfold gotE; rw [hf]; simp⟩)
  have HA := Lib.hid (fun n => only_drewN (only_alloc (only_refl w g) (.cells (insC 0 0 0 0 0) 94)) n)
  have HZ := Lib.hid (fun n => (Blk.new w 94 (insC 0 0 0 0 0)).drewN n)
  have hra := h.below ((Below.refl w.heap.size w).alloc (Nat.le_refl _) (.cells (insC 0 0 0 0 0) 94)) hgl
  have HR := Lib.hid (fun n => hra.drewN n)
  have HB := Lib.hid (bad_any _ g A c l p good hra)
  have HN := Lib.hid (fun n => num_any _ g A c l p good (hra.drewN n) 8)
  have hle := h.le
  have hzero : readV false l p good 8 = 0 := by unfold readV; rw [hf]; simp
  unfold Read at HN
  rw [hzero] at HN
  clear h hzero
  cases good with
  | false =>
    have HN0 := Lib.hid (show Calls _ _ _ _ _ from HN.out 0)
    unfold insC at HB HN0
    clear hra
    go_enter Tryz.func229, Tryz.ntmps229
    go_wp2_with fail
    refine HB.out.mono ?_
    rintro e w' ⟨rfl, rfl⟩
    go_wp2_with fail
    refine HN0.out.mono ?_
    rintro e w1 ⟨rfl, hr, ho⟩
    have hs1 : w.heap.size + 1 ≤ w1.heap.size := by simpa using ho.size
    have ZD := (HZ.out 0).only ho (by omega)
    have RD := Lib.hid hr
    have GD := Lib.hid (only_trans (HA.out 0) ho)
    have m0 : w1.cell? ⟨w.heap.size, 0, none⟩ = some (.int .i64 0) := by rw [ZD.cell]; rfl
    have m1 : w1.cell? ⟨w.heap.size, 1, none⟩ = some (.int .i64 0) := by rw [ZD.cell]; rfl
    have m2 : w1.cell? ⟨w.heap.size, 2, none⟩ = some (.int .i64 0) := by rw [ZD.cell]; rfl
    have m3 : w1.cell? ⟨w.heap.size, 3, none⟩ = some (.int .i64 0) := by rw [ZD.cell]; rfl
    have m4 : w1.cell? ⟨w.heap.size, 4, none⟩ = some (.int .i64 0) := by rw [ZD.cell]; rfl
    have n0 : w1.frozen? ⟨w.heap.size, 0, none⟩ = false := ZD.frozen 0
    have n1 : w1.frozen? ⟨w.heap.size, 1, none⟩ = false := ZD.frozen 1
    have n2 : w1.frozen? ⟨w.heap.size, 2, none⟩ = false := ZD.frozen 2
    have n3 : w1.frozen? ⟨w.heap.size, 3, none⟩ = false := ZD.frozen 3
    have n4 : w1.frozen? ⟨w.heap.size, 4, none⟩ = false := ZD.frozen 4
    have l1 : w.heap.size < w1.heap.size := by omega
    clear hr ho ZD
    go_wp2_with fail
    refine bodyPost_ret (v := .tuple #[.agg (insC 0 0 0 0 0), .int .i64 5]) ?_ rfl ⟨by rw [HG.out.1, HG.out.2], ?_, ?_⟩
    · simp [insC, results, Tryz.results229, go_sem, m0, m1, m2, m3, m4]
    · exact ((((RD.out.own hgl _ _).own hgl _ _).own hgl _ _).own hgl _ _).own hgl _ _
    · exact only_own (only_own (only_own (only_own (only_own GD.out (Nat.le_refl _) _ _) (Nat.le_refl _) _ _) (Nat.le_refl _) _ _) (Nat.le_refl _) _ _) (Nat.le_refl _) _ _
  | true =>
    have hsh : (l.length : Int) - p < 8 := by
      unfold fitsB at hf; simp at hf; omega
    have hd : decide ((l.length : Int) - p < 8) = true := by simpa using hsh
    have HL := Lib.hid (left_any _ g A c l p true hra)
    unfold insC at HB HL HN
    clear hra hsh
    go_enter Tryz.func229, Tryz.ntmps229
    go_wp2_with fail
    refine HB.out.mono ?_
    rintro e w' ⟨rfl, rfl⟩
    go_wp2_with fail
    refine HL.out.mono ?_
    rintro e w' ⟨rfl, nq, rfl⟩
    go_wp2_with fail
    refine (HN.out nq).mono ?_
    rintro e w1 ⟨rfl, hr, ho⟩
    have hs1 : w.heap.size + 1 ≤ w1.heap.size := by simpa using ho.size
    have ZD := (HZ.out nq).only ho (by omega)
    have RD := Lib.hid hr
    have GD := Lib.hid (only_trans (HA.out nq) ho)
    have m0 : w1.cell? ⟨w.heap.size, 0, none⟩ = some (.int .i64 0) := by rw [ZD.cell]; rfl
    have m1 : w1.cell? ⟨w.heap.size, 1, none⟩ = some (.int .i64 0) := by rw [ZD.cell]; rfl
    have m2 : w1.cell? ⟨w.heap.size, 2, none⟩ = some (.int .i64 0) := by rw [ZD.cell]; rfl
    have m3 : w1.cell? ⟨w.heap.size, 3, none⟩ = some (.int .i64 0) := by rw [ZD.cell]; rfl
    have m4 : w1.cell? ⟨w.heap.size, 4, none⟩ = some (.int .i64 0) := by rw [ZD.cell]; rfl
    have n0 : w1.frozen? ⟨w.heap.size, 0, none⟩ = false := ZD.frozen 0
    have n1 : w1.frozen? ⟨w.heap.size, 1, none⟩ = false := ZD.frozen 1
    have n2 : w1.frozen? ⟨w.heap.size, 2, none⟩ = false := ZD.frozen 2
    have n3 : w1.frozen? ⟨w.heap.size, 3, none⟩ = false := ZD.frozen 3
    have n4 : w1.frozen? ⟨w.heap.size, 4, none⟩ = false := ZD.frozen 4
    have l1 : w.heap.size < w1.heap.size := by omega
    clear hr ho ZD
    go_wp2_with fail
    refine bodyPost_ret (v := .tuple #[.agg (insC 0 0 0 0 0), .int .i64 5]) ?_ rfl ⟨by rw [HG.out.1, HG.out.2], ?_, ?_⟩
    · simp [insC, results, Tryz.results229, go_sem, m0, m1, m2, m3, m4]
    · exact ((((RD.out.own hgl _ _).own hgl _ _).own hgl _ _).own hgl _ _).own hgl _ _
    · exact only_own (only_own (only_own (only_own (only_own GD.out (Nat.le_refl _) _ _) (Nat.le_refl _) _ _) (Nat.le_refl _) _ _) (Nat.le_refl _) _ _) (Nat.le_refl _) _ _

set_option maxHeartbeats 4000000 in
theorem get_yes (w : World) (g : Nat) (A : Option Addr) (c : Nat) (l : List UInt8) (p : Nat) (h : Rdr w g A c l p true) (hf : fitsB l p true 8 = true) (ht : Txs w) (hg2 : 3 ≤ g) :
    Calls Tryz.prog 229 #[.pointer (some ⟨g, 0, none⟩)] w (Got w g A c l p true) := by
  have hgl := h.blk.lt
  have hp : p + 8 ≤ l.length := by unfold fitsB at hf; simp at hf; omega
  have hpp : readP l p true 8 = p + 8 := (fits_yes l p 8 (by omega) (by omega) (by omega)).2
  have HT := Lib.hid ht
  have HA := Lib.hid (fun n => only_drewN (only_alloc (only_refl w g) (.cells (insC 0 0 0 0 0) 94)) n)
  have HZ := Lib.hid (fun n => (Blk.new w 94 (insC 0 0 0 0 0)).drewN n)
  have hra := h.below ((Below.refl w.heap.size w).alloc (Nat.le_refl _) (.cells (insC 0 0 0 0 0) 94)) hgl
  have HB := Lib.hid (bad_any _ g A c l p true hra)
  have HL := Lib.hid (left_any _ g A c l p true hra)
  have HK := Lib.hid (fun n => itake_any _ g A c l p (hra.drewN n) hp)
  have hd : decide ((l.length : Int) - p < 8) = false := by simp; omega
  have HI : Hid (gotI l p true = if chV (xrO l p) (xrA l p) (xrB l p) (xrC l p) (xrN l p) = 0 then insC (xrO l p) (xrA l p) (xrB l p) (xrC l p) (xrN l p) else insC 0 0 0 0 0) := Lib.hid (by
    unfold gotI; rw [hf]; simp)
  have HE : Hid (gotE l p true = chV (xrO l p) (xrA l p) (xrB l p) (xrC l p) (xrN l p)) := Lib.hid (by unfold gotE; rw [hf]; simp)
  unfold Got
  rw [hpp, hf, HE.out]
  unfold insC at HB HL HK
  generalize xrO l p = xo at HK HI HE ⊢
  generalize xrA l p = xa at HK HI HE ⊢
  generalize xrB l p = xb at HK HI HE ⊢
  generalize xrC l p = xc at HK HI HE ⊢
  generalize xrN l p = xn at HK HI HE ⊢
  obtain ⟨ch, HCH⟩ : ∃ ch, Hid (chV xo xa xb xc xn = ch) := ⟨_, Lib.hid rfl⟩
  rw [HCH.out] at HI ⊢
  generalize gotI l p true = gi at HI ⊢
  clear h ht hra hp hpp hf HE
  by_cases hz : ch = 0
  · rw [if_pos hz] at HI
    subst hz
    rw [HI.out]
    go_enter Tryz.func229, Tryz.ntmps229
    go_wp2_with fail
    refine HB.out.mono ?_
    rintro e w' ⟨rfl, rfl⟩
    go_wp2_with fail
    refine HL.out.mono ?_
    rintro e w' ⟨rfl, nq, rfl⟩
    go_wp2_with fail
    refine (HK.out nq).mono ?_
    rintro e w1 ⟨rfl, hr, ho⟩
    have hs1 : w.heap.size + 1 ≤ w1.heap.size := by simpa using ho.size
    have Z1 := Lib.hid ((HZ.out nq).only ho (by omega))
    have R1 := Lib.hid hr
    have G1 := Lib.hid (only_trans (HA.out nq) ho)
    have T1 := Lib.hid (HT.out.only G1.out hg2)
    clear hr ho HZ HA HK HB HL
    have HCK := Lib.hid (check_any xo xa xb xc xn (w1.alloc (.cells (insC xo xa xb xc xn) 94)) (T1.out.below ((Below.refl w1.heap.size w1).alloc (Nat.le_refl _) _)))
    rw [HCH.out] at HCK
    unfold insC at HCK
    go_wp2_with fail
    refine HCK.out.mono ?_
    rintro e w2 ⟨rfl, hb⟩
    have hs2 : w1.heap.size + 1 ≤ w2.heap.size := by simpa using hb.size
    have hbb := ((Below.refl w1.heap.size w1).alloc (Nat.le_refl _) (.cells (insC xo xa xb xc xn) 94)).trans (hb.mono (by simp))
    have ZD := Z1.out.below hbb (by omega)
    have YD := (Blk.new w1 94 (insC xo xa xb xc xn)).below hb (by simp)
    have RD := Lib.hid (R1.out.below hbb (by omega))
    have GD := Lib.hid (only_trans G1.out (only_of_below g hbb))
    have m0 : w2.cell? ⟨w.heap.size, 0, none⟩ = some (.int .i64 0) := by rw [ZD.cell]; rfl
    have m1 : w2.cell? ⟨w.heap.size, 1, none⟩ = some (.int .i64 0) := by rw [ZD.cell]; rfl
    have m2 : w2.cell? ⟨w.heap.size, 2, none⟩ = some (.int .i64 0) := by rw [ZD.cell]; rfl
    have m3 : w2.cell? ⟨w.heap.size, 3, none⟩ = some (.int .i64 0) := by rw [ZD.cell]; rfl
    have m4 : w2.cell? ⟨w.heap.size, 4, none⟩ = some (.int .i64 0) := by rw [ZD.cell]; rfl
    have n0 : w2.frozen? ⟨w.heap.size, 0, none⟩ = false := ZD.frozen 0
    have n1 : w2.frozen? ⟨w.heap.size, 1, none⟩ = false := ZD.frozen 1
    have n2 : w2.frozen? ⟨w.heap.size, 2, none⟩ = false := ZD.frozen 2
    have n3 : w2.frozen? ⟨w.heap.size, 3, none⟩ = false := ZD.frozen 3
    have n4 : w2.frozen? ⟨w.heap.size, 4, none⟩ = false := ZD.frozen 4
    have y0 : w2.cell? ⟨w1.heap.size, 0, none⟩ = some (.int .i64 xo) := by rw [YD.cell]; rfl
    have y1 : w2.cell? ⟨w1.heap.size, 1, none⟩ = some (.int .i64 xa) := by rw [YD.cell]; rfl
    have y2 : w2.cell? ⟨w1.heap.size, 2, none⟩ = some (.int .i64 xb) := by rw [YD.cell]; rfl
    have y3 : w2.cell? ⟨w1.heap.size, 3, none⟩ = some (.int .i64 xc) := by rw [YD.cell]; rfl
    have y4 : w2.cell? ⟨w1.heap.size, 4, none⟩ = some (.int .i64 xn) := by rw [YD.cell]; rfl
    have l1 : w.heap.size < w2.heap.size := by omega
    have l2 : w1.heap.size < w2.heap.size := by omega
    have l3 : ¬ w1.heap.size = w.heap.size := by omega
    clear hb hbb ZD YD Z1 R1 G1 T1 HCK
    go_wp2_with fail
    refine bodyPost_ret (v := .tuple #[.agg (insC xo xa xb xc xn), .int .i64 0]) ?_ rfl ⟨rfl, ?_, ?_⟩
    · simp [insC, results, Tryz.results229, go_sem, m0, m1, m2, m3, m4]
    · exact ((((RD.out.own hgl _ _).own hgl _ _).own hgl _ _).own hgl _ _).own hgl _ _
    · exact only_own (only_own (only_own (only_own (only_own GD.out (Nat.le_refl _) _ _) (Nat.le_refl _) _ _) (Nat.le_refl _) _ _) (Nat.le_refl _) _ _) (Nat.le_refl _) _ _
  · rw [if_neg hz] at HI
    rw [HI.out]
    have hz2 : (ch == 0) = false := by simpa using hz
    have hz3 : (ch != 0) = true := by simpa using hz
    go_enter Tryz.func229, Tryz.ntmps229
    go_wp2_with fail
    refine HB.out.mono ?_
    rintro e w' ⟨rfl, rfl⟩
    go_wp2_with fail
    refine HL.out.mono ?_
    rintro e w' ⟨rfl, nq, rfl⟩
    go_wp2_with fail
    refine (HK.out nq).mono ?_
    rintro e w1 ⟨rfl, hr, ho⟩
    have hs1 : w.heap.size + 1 ≤ w1.heap.size := by simpa using ho.size
    have Z1 := Lib.hid ((HZ.out nq).only ho (by omega))
    have R1 := Lib.hid hr
    have G1 := Lib.hid (only_trans (HA.out nq) ho)
    have T1 := Lib.hid (HT.out.only G1.out hg2)
    clear hr ho HZ HA HK HB HL
    have HCK := Lib.hid (check_any xo xa xb xc xn (w1.alloc (.cells (insC xo xa xb xc xn) 94)) (T1.out.below ((Below.refl w1.heap.size w1).alloc (Nat.le_refl _) _)))
    rw [HCH.out] at HCK
    unfold insC at HCK
    go_wp2_with fail
    refine HCK.out.mono ?_
    rintro e w2 ⟨rfl, hb⟩
    have hs2 : w1.heap.size + 1 ≤ w2.heap.size := by simpa using hb.size
    have hbb := ((Below.refl w1.heap.size w1).alloc (Nat.le_refl _) (.cells (insC xo xa xb xc xn) 94)).trans (hb.mono (by simp))
    have ZD := Z1.out.below hbb (by omega)
    have RD := Lib.hid (R1.out.below hbb (by omega))
    have GD := Lib.hid (only_trans G1.out (only_of_below g hbb))
    have m0 : w2.cell? ⟨w.heap.size, 0, none⟩ = some (.int .i64 0) := by rw [ZD.cell]; rfl
    have m1 : w2.cell? ⟨w.heap.size, 1, none⟩ = some (.int .i64 0) := by rw [ZD.cell]; rfl
    have m2 : w2.cell? ⟨w.heap.size, 2, none⟩ = some (.int .i64 0) := by rw [ZD.cell]; rfl
    have m3 : w2.cell? ⟨w.heap.size, 3, none⟩ = some (.int .i64 0) := by rw [ZD.cell]; rfl
    have m4 : w2.cell? ⟨w.heap.size, 4, none⟩ = some (.int .i64 0) := by rw [ZD.cell]; rfl
    have n0 : w2.frozen? ⟨w.heap.size, 0, none⟩ = false := ZD.frozen 0
    have n1 : w2.frozen? ⟨w.heap.size, 1, none⟩ = false := ZD.frozen 1
    have n2 : w2.frozen? ⟨w.heap.size, 2, none⟩ = false := ZD.frozen 2
    have n3 : w2.frozen? ⟨w.heap.size, 3, none⟩ = false := ZD.frozen 3
    have n4 : w2.frozen? ⟨w.heap.size, 4, none⟩ = false := ZD.frozen 4
    have l1 : w.heap.size < w2.heap.size := by omega
    clear hb hbb ZD Z1 R1 G1 T1 HCK hz
    go_wp2_with fail
    refine bodyPost_ret (v := .tuple #[.agg (insC 0 0 0 0 0), .int .i64 ch]) ?_ rfl ⟨rfl, ?_, ?_⟩
    · simp [insC, results, Tryz.results229, go_sem, m0, m1, m2, m3, m4]
    · exact ((((RD.out.own hgl _ _).own hgl _ _).own hgl _ _).own hgl _ _).own hgl _ _
    · exact only_own (only_own (only_own (only_own (only_own GD.out (Nat.le_refl _) _ _) (Nat.le_refl _) _ _) (Nat.le_refl _) _ _) (Nat.le_refl _) _ _) (Nat.le_refl _) _ _

/-- Get, whatever the reader. -/
theorem get_any (w : World) (g : Nat) (A : Option Addr) (c : Nat) (l : List UInt8) (p : Nat) (good : Bool) (h : Rdr w g A c l p good) (ht : Txs w) (hg2 : 3 ≤ g) :
    Calls Tryz.prog 229 #[.pointer (some ⟨g, 0, none⟩)] w (Got w g A c l p good) := by
  cases hf : fitsB l p good 8 with
  | false => exact get_no w g A c l p good h hf
  | true =>
    cases good with
    | false => simp [fitsB] at hf
    | true => exact get_yes w g A c l p h hf ht hg2
end Go.Proofs.YtbknmapkdjmcjaaGreatDoor.By
