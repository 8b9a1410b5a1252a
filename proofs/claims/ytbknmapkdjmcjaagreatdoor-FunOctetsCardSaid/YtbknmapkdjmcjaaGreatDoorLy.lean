/-
  WALKS of layer 16: the document's next function. (Ik, Kk in one)
-/
import Derived.Test.YtbknmapkdjmcjaaGreatDoorIj
import Derived.Test.YtbknmapkdjmcjaaGreatDoorIe
import Derived.Test.YtbknmapkdjmcjaaGreatDoorRg
import Derived.Test.YtbknmapkdjmcjaaGreatDoorLx
import Derived.RegionTactic
import Derived.BigRegion

namespace Go.Proofs.YtbknmapkdjmcjaaGreatDoor.Mem
open Go.RowKit

theorem Blk.other {w : World} {g G : Nat} {t : TypeId} {cs : Array Value} (h : Blk w g t cs) (hne : g ≠ G) (i : Nat) (u : Value) : Blk (w.setCell ⟨G, i, none⟩ u) g t cs :=
  h.only (only_set (only_refl w G) i u) hne

/-- Cells of a block of three that were written. -/
theorem Blk.three {w : World} {g : Nat} {t : TypeId} {x y z : Value} (h : Blk w g t #[x, y, z]) (x' y' z' : Value) : Blk (((w.setCell ⟨g, 0, none⟩ x').setCell ⟨g, 1, none⟩ y').setCell ⟨g, 2, none⟩ z') g t #[x', y', z'] :=
  ((h.stored 0 x').stored 1 y').stored 2 z'

end Go.Proofs.YtbknmapkdjmcjaaGreatDoor.Mem
namespace Go.Proofs.YtbknmapkdjmcjaaGreatDoor.By
open Go.ChangeShapes Go.WideShapes Go.ChangeAt Go.RowKit
open Mem

def RGot (w : World) (A : Option Addr) (n c : Nat) (l : List UInt8) (p : Nat) (good : Bool) (e : Ending) (w' : World) : Prop :=
  e = .returned (.tuple #[.agg #[.slice A n c, .int .i64 (readP l p good 8), .bool (!fitsB l p good 8)], .agg (gotI l p good), .int .i64 (gotE l p good)]) ∧ Below w.heap.size w w'

theorem xrO_in (l : List UInt8) (p : Nat) : 0 ≤ xrO l p ∧ xrO l p ≤ 255 := by
  unfold xrO readV
  split
  · have : ∀ us : List UInt8, us.length ≤ 1 → 0 ≤ numV false us ∧ numV false us ≤ 255 := by
      intro us hus
      match us, hus with
      | [], _ => exact ⟨by simp [numV], by simp [numV]⟩
      | [x], _ =>
        have := x.toNat_lt
        simp [numV, acc]
        omega
    exact this _ (by simp; omega)
  · omega

theorem rnum_there (w : World) (B : Nat) (A : Option Addr) (n c : Nat) (l : List UInt8) (p : Nat) (sg : Bool) (k : Int) (hn : l.length = n) (h1 : 1 ≤ k) (h8 : k ≤ 8) (hp : p + k ≤ l.length) (hl : l.length ≤ 1099511627776) (hv : SlV w B (.slice A n c) (u8s l)) :
    Calls Tryz.prog 86 #[.agg #[.slice A n c, .int .i64 p, .bool false], .int .i64 k, .bool sg] w (RNum w A n c (p + k.toNat) false (readV sg l p true k)) := by
  subst hn
  have hf := fits_yes l p k h1 h8 hp
  have h := rnum_any w B A c l p true sg k (by omega) hl hv
  rw [hf.1, hf.2] at h
  exact h

set_option maxHeartbeats 4000000 in
theorem rget_no (w : World) (A : Option Addr) (n c : Nat) (l : List UInt8) (p : Nat) (good : Bool) (hn : l.length = n) (hle : p ≤ n) (hl : n ≤ 1099511627776) (hf : fitsB l p good 8 = false) :
    Calls Tryz.prog 87 #[.agg #[.slice A n c, .int .i64 p, .bool (!good)]] w (RGot w A n c l p good) := by
  have HG := Lib.hid (show gotI l p good = insC 0 0 0 0 0 ∧ gotE l p good = 5 ∧ readP l p good 8 = p from ⟨by unfold gotI; rw [hf]; simp, by unfold gotE; rw [hf]; simp, by unfold readP; rw [hf]; simp⟩)
  unfold RGot
  rw [HG.out.1, HG.out.2.1, HG.out.2.2, hf]
  cases good with
  | false =>
    clear hf HG
    go_enter Tryz.func87, Tryz.ntmps87
    go_wp2_with fail
    refine bodyPost_ret (v := .tuple #[.agg #[.slice A n c, .int .i64 p, .bool true], .agg (insC 0 0 0 0 0), .int .i64 5]) ?_ rfl ⟨rfl, ?_⟩
    · simp [insC, results, Tryz.results87, go_sem]
    · go_grown
  | true =>
    have hsh : (n : Int) - p < 8 := by
      unfold fitsB at hf; simp at hf; omega
    have hd : decide ((n : Int) - p < 8) = true := by simpa using hsh
    clear hf HG hsh
    go_enter Tryz.func87, Tryz.ntmps87
    go_wp2_with fail
    refine bodyPost_ret (v := .tuple #[.agg #[.slice A n c, .int .i64 p, .bool true], .agg (insC 0 0 0 0 0), .int .i64 5]) ?_ rfl ⟨rfl, ?_⟩
    · simp [insC, results, Tryz.results87, go_sem]
    · go_grown

set_option maxHeartbeats 8000000 in
theorem rget_yes (w : World) (A : Option Addr) (n c : Nat) (l : List UInt8) (p : Nat) (hn : l.length = n) (hl : n ≤ 1099511627776) (hf : fitsB l p true 8 = true) (hv : SlV w w.heap.size (.slice A n c) (u8s l)) :
    Calls Tryz.prog 87 #[.agg #[.slice A n c, .int .i64 p, .bool false]] w (RGot w A n c l p true) := by
  have hp : p + 8 ≤ l.length := by unfold fitsB at hf; simp at hf; omega
  have hpp : readP l p true 8 = p + 8 := (fits_yes l p 8 (by omega) (by omega) (by omega)).2
  have hd : decide ((n : Int) - p < 8) = false := by simp; omega
  have HI : Hid (gotI l p true = if chV (xrO l p) (xrA l p) (xrB l p) (xrC l p) (xrN l p) = 0 then insC (xrO l p) (xrA l p) (xrB l p) (xrC l p) (xrN l p) else insC 0 0 0 0 0) := Lib.hid (by
    unfold gotI; rw [hf]; simp)
  have HE : Hid (gotE l p true = chV (xrO l p) (xrA l p) (xrB l p) (xrC l p) (xrN l p)) := Lib.hid (by unfold gotE; rw [hf]; simp)
  have HX := Lib.hid (xrO_in l p)
  have HL := Lib.hid hn
  have HP := Lib.hid hp
  have HV := Lib.hid hv
  unfold RGot
  rw [hpp, hf, HE.out]
  obtain ⟨p1, P1⟩ : ∃ q, Hid (q = p + 1) := ⟨_, Lib.hid rfl⟩
  obtain ⟨p2, P2⟩ : ∃ q, Hid (q = p + 2) := ⟨_, Lib.hid rfl⟩
  obtain ⟨p3, P3⟩ : ∃ q, Hid (q = p + 3) := ⟨_, Lib.hid rfl⟩
  obtain ⟨p4, P4⟩ : ∃ q, Hid (q = p + 4) := ⟨_, Lib.hid rfl⟩
  obtain ⟨p5, P5⟩ : ∃ q, Hid (q = p + 8) := ⟨_, Lib.hid rfl⟩
  obtain ⟨xo, Eo⟩ : ∃ x, Hid (readV false l p true 1 = x) := ⟨_, Lib.hid rfl⟩
  obtain ⟨xa, Ea⟩ : ∃ x, Hid (readV false l p1 true 1 = x) := ⟨_, Lib.hid rfl⟩
  obtain ⟨xb, Eb⟩ : ∃ x, Hid (readV false l p2 true 1 = x) := ⟨_, Lib.hid rfl⟩
  obtain ⟨xc, Ec⟩ : ∃ x, Hid (readV false l p3 true 1 = x) := ⟨_, Lib.hid rfl⟩
  obtain ⟨xn, En⟩ : ∃ x, Hid (readV true l p4 true 4 = x) := ⟨_, Lib.hid rfl⟩
  rw [show xrO l p = xo from Eo.out, show xrA l p = xa from by rw [← Ea.out, P1.out]; rfl, show xrB l p = xb from by rw [← Eb.out, P2.out]; rfl, show xrC l p = xc from by rw [← Ec.out, P3.out]; rfl, show xrN l p = xn from by rw [← En.out, P4.out]; rfl] at HI HE ⊢
  rw [← P5.out]
  rw [show xrO l p = xo from Eo.out] at HX
  obtain ⟨ch, HCH⟩ : ∃ ch, Hid (chV xo xa xb xc xn = ch) := ⟨_, Lib.hid rfl⟩
  rw [HCH.out] at HI ⊢
  generalize gotI l p true = gi at HI ⊢
  clear hf hpp hv HE
  have hp2 : p + 8 ≤ n := by omega
  clear hp hn
  obtain ⟨W0, hW0⟩ : ∃ W, (((w.alloc (.cells #[.slice A n c, .int .i64 p, .bool false] 42)).alloc (.cells #[.slice none 0 0, .int .i64 0, .bool false] 42)).alloc (.cells (insC 0 0 0 0 0) 94)).alloc (.cells (aptC 0 0 0 0) 181) = W := ⟨_, rfl⟩
  have X2 := Lib.hid (show Blk W0 w.heap.size 42 #[.slice A n c, .int .i64 p, .bool false] by rw [← hW0]; exact (((Blk.new w _ _).alloc _).alloc _).alloc _)
  have R2 := Lib.hid (show Blk W0 (w.heap.size + 1) 42 #[.slice none 0 0, .int .i64 0, .bool false] by rw [← hW0]; exact ((Blk.at_ _ _ (by simp)).alloc _).alloc _)
  have I2 := Lib.hid (show Blk W0 (w.heap.size + 1 + 1) 94 (insC 0 0 0 0 0) by rw [← hW0]; exact (Blk.at_ _ _ (by simp)).alloc _)
  have L2 := Lib.hid (show Blk W0 (w.heap.size + 1 + 1 + 1) 181 (aptC 0 0 0 0) by rw [← hW0]; exact Blk.at_ _ _ (by simp))
  have B2 := Lib.hid (show Below w.heap.size w W0 by rw [← hW0]; exact ((((Below.refl _ _).alloc (Nat.le_refl _) _).alloc (by simp) _).alloc (by simp; omega) _).alloc (by simp; omega) _)
  have s2 : w.heap.size + 4 ≤ W0.heap.size := by rw [← hW0]; simp
  unfold insC aptC at hW0
  go_enter Tryz.func87, Tryz.ntmps87
  go_wp2_with fail
  clear hW0
  refine wp_loop_rounds 5 ?_
  rw [rounds_succ]
  have D0 := Lib.hid (rnum_there W0 w.heap.size A n c l p false 1 HL.out (by omega) (by omega) (by have := HP.out; omega) (by have := HL.out; omega) (HV.out.below B2.out))
  rw [Eo.out, show p + (1 : Int).toNat = p1 from by rw [P1.out]; rfl] at D0
  have k0 : W0.cell? ⟨w.heap.size, 0, none⟩ = some (.slice A n c) := by rw [X2.out.cell]; rfl
  have k1 : W0.cell? ⟨w.heap.size, 1, none⟩ = some (.int .i64 p) := by rw [X2.out.cell]; rfl
  have k2 : W0.cell? ⟨w.heap.size, 2, none⟩ = some (.bool false) := by rw [X2.out.cell]; rfl
  go_wp2_with fail
  refine D0.out.mono ?_
  rintro e v0 ⟨rfl, hb⟩
  have sv0 := hb.size
  have XV := Lib.hid (X2.out.below hb (by omega))
  have RV := Lib.hid (R2.out.below hb (by omega))
  have IV := Lib.hid (I2.out.below hb (by omega))
  have LV := Lib.hid (L2.out.below hb (by omega))
  have BV := Lib.hid (B2.out.trans (hb.mono (by omega)))
  clear hb k0 k1 k2 X2 R2 I2 L2 B2 D0
  have k0 : v0.cell? ⟨w.heap.size, 0, none⟩ = some (.slice A n c) := by rw [XV.out.cell]; rfl
  have k1 : v0.cell? ⟨w.heap.size, 1, none⟩ = some (.int .i64 p) := by rw [XV.out.cell]; rfl
  have k2 : v0.cell? ⟨w.heap.size, 2, none⟩ = some (.bool false) := by rw [XV.out.cell]; rfl
  have n0 : v0.frozen? ⟨w.heap.size, 0, none⟩ = false := XV.out.frozen 0
  have n1 : v0.frozen? ⟨w.heap.size, 1, none⟩ = false := XV.out.frozen 1
  have n2 : v0.frozen? ⟨w.heap.size, 2, none⟩ = false := XV.out.frozen 2
  have y0 : v0.cell? ⟨w.heap.size + 1 + 1 + 1, 0, none⟩ = some (.int .i64 0) := by rw [LV.out.cell]; rfl
  have y1 : v0.frozen? ⟨w.heap.size + 1 + 1 + 1, 0, none⟩ = false := LV.out.frozen 0
  have l1 : w.heap.size < v0.heap.size := by omega
  have l2 : w.heap.size + 1 + 1 + 1 < v0.heap.size := by omega
  go_wp2_with fail
  generalize hu0 : ((((v0.setCell ⟨w.heap.size, 0, none⟩ (.slice A n c)).setCell ⟨w.heap.size, 1, none⟩ (.int .i64 p1)).setCell ⟨w.heap.size, 2, none⟩ (.bool false)).setCell ⟨w.heap.size + 1 + 1 + 1, 0, none⟩ (.int .i64 xo)).alloc (.cells #[.slice A n c, .int .i64 p1, .bool false] 42) = u0
  have X3 := Lib.hid (show Blk u0 w.heap.size 42 #[.slice A n c, .int .i64 p1, .bool false] by rw [← hu0]; exact ((XV.out.three _ _ _).other (by omega) _ _).alloc _)
  have R3 := Lib.hid (show Blk u0 (w.heap.size + 1) 42 #[.slice none 0 0, .int .i64 0, .bool false] by rw [← hu0]; exact ((((RV.out.other (by omega) _ _).other (by omega) _ _).other (by omega) _ _).other (by omega) _ _).alloc _)
  have I3 := Lib.hid (show Blk u0 (w.heap.size + 1 + 1) 94 (insC 0 0 0 0 0) by rw [← hu0]; exact ((((IV.out.other (by omega) _ _).other (by omega) _ _).other (by omega) _ _).other (by omega) _ _).alloc _)
  have L3 := Lib.hid (show Blk u0 (w.heap.size + 1 + 1 + 1) 181 (aptC xo 0 0 0) by rw [← hu0]; exact ((((LV.out.other (by omega) _ _).other (by omega) _ _).other (by omega) _ _).stored 0 _).alloc _)
  have B3 := Lib.hid (show Below w.heap.size w u0 by rw [← hu0]; exact ((((BV.out.setCell (Nat.le_refl _) _).setCell (Nat.le_refl _) _).setCell (Nat.le_refl _) _).setCell (by show w.heap.size ≤ w.heap.size + 1 + 1 + 1; omega) _).alloc (by simp [World.setCell]; omega) _)
  have s3 : w.heap.size + 4 ≤ u0.heap.size := by rw [← hu0]; simp [World.setCell]; omega
  clear hu0 XV RV IV LV BV k0 k1 k2 n0 n1 n2 y0 y1 l1 l2 sv0
  rw [rounds_succ]
  have D1 := Lib.hid (rnum_there u0 w.heap.size A n c l p1 false 1 HL.out (by omega) (by omega) (by have := HP.out; have := P1.out; omega) (by have := HL.out; omega) (HV.out.below B3.out))
  rw [Ea.out, show p1 + (1 : Int).toNat = p2 from by rw [P1.out, P2.out]; rfl] at D1
  have k0 : u0.cell? ⟨w.heap.size, 0, none⟩ = some (.slice A n c) := by rw [X3.out.cell]; rfl
  have k1 : u0.cell? ⟨w.heap.size, 1, none⟩ = some (.int .i64 p1) := by rw [X3.out.cell]; rfl
  have k2 : u0.cell? ⟨w.heap.size, 2, none⟩ = some (.bool false) := by rw [X3.out.cell]; rfl
  go_wp2_with fail
  refine D1.out.mono ?_
  rintro e v1 ⟨rfl, hb⟩
  have sv1 := hb.size
  have XV := Lib.hid (X3.out.below hb (by omega))
  have RV := Lib.hid (R3.out.below hb (by omega))
  have IV := Lib.hid (I3.out.below hb (by omega))
  have LV := Lib.hid (L3.out.below hb (by omega))
  have BV := Lib.hid (B3.out.trans (hb.mono (by omega)))
  clear hb k0 k1 k2 X3 R3 I3 L3 B3 D1
  have k0 : v1.cell? ⟨w.heap.size, 0, none⟩ = some (.slice A n c) := by rw [XV.out.cell]; rfl
  have k1 : v1.cell? ⟨w.heap.size, 1, none⟩ = some (.int .i64 p1) := by rw [XV.out.cell]; rfl
  have k2 : v1.cell? ⟨w.heap.size, 2, none⟩ = some (.bool false) := by rw [XV.out.cell]; rfl
  have n0 : v1.frozen? ⟨w.heap.size, 0, none⟩ = false := XV.out.frozen 0
  have n1 : v1.frozen? ⟨w.heap.size, 1, none⟩ = false := XV.out.frozen 1
  have n2 : v1.frozen? ⟨w.heap.size, 2, none⟩ = false := XV.out.frozen 2
  have y0 : v1.cell? ⟨w.heap.size + 1 + 1 + 1, 1, none⟩ = some (.int .i64 0) := by rw [LV.out.cell]; rfl
  have y1 : v1.frozen? ⟨w.heap.size + 1 + 1 + 1, 1, none⟩ = false := LV.out.frozen 1
  have l1 : w.heap.size < v1.heap.size := by omega
  have l2 : w.heap.size + 1 + 1 + 1 < v1.heap.size := by omega
  go_wp2_with fail
  generalize hu1 : ((((v1.setCell ⟨w.heap.size, 0, none⟩ (.slice A n c)).setCell ⟨w.heap.size, 1, none⟩ (.int .i64 p2)).setCell ⟨w.heap.size, 2, none⟩ (.bool false)).setCell ⟨w.heap.size + 1 + 1 + 1, 1, none⟩ (.int .i64 xa)).alloc (.cells #[.slice A n c, .int .i64 p2, .bool false] 42) = u1
  have X4 := Lib.hid (show Blk u1 w.heap.size 42 #[.slice A n c, .int .i64 p2, .bool false] by rw [← hu1]; exact ((XV.out.three _ _ _).other (by omega) _ _).alloc _)
  have R4 := Lib.hid (show Blk u1 (w.heap.size + 1) 42 #[.slice none 0 0, .int .i64 0, .bool false] by rw [← hu1]; exact ((((RV.out.other (by omega) _ _).other (by omega) _ _).other (by omega) _ _).other (by omega) _ _).alloc _)
  have I4 := Lib.hid (show Blk u1 (w.heap.size + 1 + 1) 94 (insC 0 0 0 0 0) by rw [← hu1]; exact ((((IV.out.other (by omega) _ _).other (by omega) _ _).other (by omega) _ _).other (by omega) _ _).alloc _)
  have L4 := Lib.hid (show Blk u1 (w.heap.size + 1 + 1 + 1) 181 (aptC xo xa 0 0) by rw [← hu1]; exact ((((LV.out.other (by omega) _ _).other (by omega) _ _).other (by omega) _ _).stored 1 _).alloc _)
  have B4 := Lib.hid (show Below w.heap.size w u1 by rw [← hu1]; exact ((((BV.out.setCell (Nat.le_refl _) _).setCell (Nat.le_refl _) _).setCell (Nat.le_refl _) _).setCell (by show w.heap.size ≤ w.heap.size + 1 + 1 + 1; omega) _).alloc (by simp [World.setCell]; omega) _)
  have s4 : w.heap.size + 4 ≤ u1.heap.size := by rw [← hu1]; simp [World.setCell]; omega
  clear hu1 XV RV IV LV BV k0 k1 k2 n0 n1 n2 y0 y1 l1 l2 sv1
  rw [rounds_succ]
  have D2 := Lib.hid (rnum_there u1 w.heap.size A n c l p2 false 1 HL.out (by omega) (by omega) (by have := HP.out; have := P2.out; omega) (by have := HL.out; omega) (HV.out.below B4.out))
  rw [Eb.out, show p2 + (1 : Int).toNat = p3 from by rw [P2.out, P3.out]; rfl] at D2
  have k0 : u1.cell? ⟨w.heap.size, 0, none⟩ = some (.slice A n c) := by rw [X4.out.cell]; rfl
  have k1 : u1.cell? ⟨w.heap.size, 1, none⟩ = some (.int .i64 p2) := by rw [X4.out.cell]; rfl
  have k2 : u1.cell? ⟨w.heap.size, 2, none⟩ = some (.bool false) := by rw [X4.out.cell]; rfl
  go_wp2_with fail
  refine D2.out.mono ?_
  rintro e v2 ⟨rfl, hb⟩
  have sv2 := hb.size
  have XV := Lib.hid (X4.out.below hb (by omega))
  have RV := Lib.hid (R4.out.below hb (by omega))
  have IV := Lib.hid (I4.out.below hb (by omega))
  have LV := Lib.hid (L4.out.below hb (by omega))
  have BV := Lib.hid (B4.out.trans (hb.mono (by omega)))
  clear hb k0 k1 k2 X4 R4 I4 L4 B4 D2
  have k0 : v2.cell? ⟨w.heap.size, 0, none⟩ = some (.slice A n c) := by rw [XV.out.cell]; rfl
  have k1 : v2.cell? ⟨w.heap.size, 1, none⟩ = some (.int .i64 p2) := by rw [XV.out.cell]; rfl
  have k2 : v2.cell? ⟨w.heap.size, 2, none⟩ = some (.bool false) := by rw [XV.out.cell]; rfl
  have n0 : v2.frozen? ⟨w.heap.size, 0, none⟩ = false := XV.out.frozen 0
  have n1 : v2.frozen? ⟨w.heap.size, 1, none⟩ = false := XV.out.frozen 1
  have n2 : v2.frozen? ⟨w.heap.size, 2, none⟩ = false := XV.out.frozen 2
  have y0 : v2.cell? ⟨w.heap.size + 1 + 1 + 1, 2, none⟩ = some (.int .i64 0) := by rw [LV.out.cell]; rfl
  have y1 : v2.frozen? ⟨w.heap.size + 1 + 1 + 1, 2, none⟩ = false := LV.out.frozen 2
  have l1 : w.heap.size < v2.heap.size := by omega
  have l2 : w.heap.size + 1 + 1 + 1 < v2.heap.size := by omega
  go_wp2_with fail
  generalize hu2 : ((((v2.setCell ⟨w.heap.size, 0, none⟩ (.slice A n c)).setCell ⟨w.heap.size, 1, none⟩ (.int .i64 p3)).setCell ⟨w.heap.size, 2, none⟩ (.bool false)).setCell ⟨w.heap.size + 1 + 1 + 1, 2, none⟩ (.int .i64 xb)).alloc (.cells #[.slice A n c, .int .i64 p3, .bool false] 42) = u2
  have X5 := Lib.hid (show Blk u2 w.heap.size 42 #[.slice A n c, .int .i64 p3, .bool false] by rw [← hu2]; exact ((XV.out.three _ _ _).other (by omega) _ _).alloc _)
  have R5 := Lib.hid (show Blk u2 (w.heap.size + 1) 42 #[.slice none 0 0, .int .i64 0, .bool false] by rw [← hu2]; exact ((((RV.out.other (by omega) _ _).other (by omega) _ _).other (by omega) _ _).other (by omega) _ _).alloc _)
  have I5 := Lib.hid (show Blk u2 (w.heap.size + 1 + 1) 94 (insC 0 0 0 0 0) by rw [← hu2]; exact ((((IV.out.other (by omega) _ _).other (by omega) _ _).other (by omega) _ _).other (by omega) _ _).alloc _)
  have L5 := Lib.hid (show Blk u2 (w.heap.size + 1 + 1 + 1) 181 (aptC xo xa xb 0) by rw [← hu2]; exact ((((LV.out.other (by omega) _ _).other (by omega) _ _).other (by omega) _ _).stored 2 _).alloc _)
  have B5 := Lib.hid (show Below w.heap.size w u2 by rw [← hu2]; exact ((((BV.out.setCell (Nat.le_refl _) _).setCell (Nat.le_refl _) _).setCell (Nat.le_refl _) _).setCell (by show w.heap.size ≤ w.heap.size + 1 + 1 + 1; omega) _).alloc (by simp [World.setCell]; omega) _)
  have s5 : w.heap.size + 4 ≤ u2.heap.size := by rw [← hu2]; simp [World.setCell]; omega
  clear hu2 XV RV IV LV BV k0 k1 k2 n0 n1 n2 y0 y1 l1 l2 sv2
  rw [rounds_succ]
  have D3 := Lib.hid (rnum_there u2 w.heap.size A n c l p3 false 1 HL.out (by omega) (by omega) (by have := HP.out; have := P3.out; omega) (by have := HL.out; omega) (HV.out.below B5.out))
  rw [Ec.out, show p3 + (1 : Int).toNat = p4 from by rw [P3.out, P4.out]; rfl] at D3
  have k0 : u2.cell? ⟨w.heap.size, 0, none⟩ = some (.slice A n c) := by rw [X5.out.cell]; rfl
  have k1 : u2.cell? ⟨w.heap.size, 1, none⟩ = some (.int .i64 p3) := by rw [X5.out.cell]; rfl
  have k2 : u2.cell? ⟨w.heap.size, 2, none⟩ = some (.bool false) := by rw [X5.out.cell]; rfl
  go_wp2_with fail
  refine D3.out.mono ?_
  rintro e v3 ⟨rfl, hb⟩
  have sv3 := hb.size
  have XV := Lib.hid (X5.out.below hb (by omega))
  have RV := Lib.hid (R5.out.below hb (by omega))
  have IV := Lib.hid (I5.out.below hb (by omega))
  have LV := Lib.hid (L5.out.below hb (by omega))
  have BV := Lib.hid (B5.out.trans (hb.mono (by omega)))
  clear hb k0 k1 k2 X5 R5 I5 L5 B5 D3
  have k0 : v3.cell? ⟨w.heap.size, 0, none⟩ = some (.slice A n c) := by rw [XV.out.cell]; rfl
  have k1 : v3.cell? ⟨w.heap.size, 1, none⟩ = some (.int .i64 p3) := by rw [XV.out.cell]; rfl
  have k2 : v3.cell? ⟨w.heap.size, 2, none⟩ = some (.bool false) := by rw [XV.out.cell]; rfl
  have n0 : v3.frozen? ⟨w.heap.size, 0, none⟩ = false := XV.out.frozen 0
  have n1 : v3.frozen? ⟨w.heap.size, 1, none⟩ = false := XV.out.frozen 1
  have n2 : v3.frozen? ⟨w.heap.size, 2, none⟩ = false := XV.out.frozen 2
  have y0 : v3.cell? ⟨w.heap.size + 1 + 1 + 1, 3, none⟩ = some (.int .i64 0) := by rw [LV.out.cell]; rfl
  have y1 : v3.frozen? ⟨w.heap.size + 1 + 1 + 1, 3, none⟩ = false := LV.out.frozen 3
  have l1 : w.heap.size < v3.heap.size := by omega
  have l2 : w.heap.size + 1 + 1 + 1 < v3.heap.size := by omega
  go_wp2_with fail
  generalize hu3 : ((((v3.setCell ⟨w.heap.size, 0, none⟩ (.slice A n c)).setCell ⟨w.heap.size, 1, none⟩ (.int .i64 p4)).setCell ⟨w.heap.size, 2, none⟩ (.bool false)).setCell ⟨w.heap.size + 1 + 1 + 1, 3, none⟩ (.int .i64 xc)).alloc (.cells #[.slice A n c, .int .i64 p4, .bool false] 42) = u3
  have X6 := Lib.hid (show Blk u3 w.heap.size 42 #[.slice A n c, .int .i64 p4, .bool false] by rw [← hu3]; exact ((XV.out.three _ _ _).other (by omega) _ _).alloc _)
  have R6 := Lib.hid (show Blk u3 (w.heap.size + 1) 42 #[.slice none 0 0, .int .i64 0, .bool false] by rw [← hu3]; exact ((((RV.out.other (by omega) _ _).other (by omega) _ _).other (by omega) _ _).other (by omega) _ _).alloc _)
  have I6 := Lib.hid (show Blk u3 (w.heap.size + 1 + 1) 94 (insC 0 0 0 0 0) by rw [← hu3]; exact ((((IV.out.other (by omega) _ _).other (by omega) _ _).other (by omega) _ _).other (by omega) _ _).alloc _)
  have L6 := Lib.hid (show Blk u3 (w.heap.size + 1 + 1 + 1) 181 (aptC xo xa xb xc) by rw [← hu3]; exact ((((LV.out.other (by omega) _ _).other (by omega) _ _).other (by omega) _ _).stored 3 _).alloc _)
  have B6 := Lib.hid (show Below w.heap.size w u3 by rw [← hu3]; exact ((((BV.out.setCell (Nat.le_refl _) _).setCell (Nat.le_refl _) _).setCell (Nat.le_refl _) _).setCell (by show w.heap.size ≤ w.heap.size + 1 + 1 + 1; omega) _).alloc (by simp [World.setCell]; omega) _)
  have s6 : w.heap.size + 4 ≤ u3.heap.size := by rw [← hu3]; simp [World.setCell]; omega
  clear hu3 XV RV IV LV BV k0 k1 k2 n0 n1 n2 y0 y1 l1 l2 sv3
  rw [rounds_succ]
  have D4 := Lib.hid (rnum_there u3 w.heap.size A n c l p4 true 4 HL.out (by omega) (by omega) (by have := HP.out; have := P4.out; omega) (by have := HL.out; omega) (HV.out.below B6.out))
  rw [En.out, show p4 + (4 : Int).toNat = p5 from by rw [P4.out, P5.out]; rfl] at D4
  have k0 : u3.cell? ⟨w.heap.size, 0, none⟩ = some (.slice A n c) := by rw [X6.out.cell]; rfl
  have k1 : u3.cell? ⟨w.heap.size, 1, none⟩ = some (.int .i64 p4) := by rw [X6.out.cell]; rfl
  have k2 : u3.cell? ⟨w.heap.size, 2, none⟩ = some (.bool false) := by rw [X6.out.cell]; rfl
  go_wp2_with fail
  refine D4.out.mono ?_
  rintro e v4 ⟨rfl, hb⟩
  have sv4 := hb.size
  have RV := Lib.hid (R6.out.below hb (by omega))
  have IV := Lib.hid (I6.out.below hb (by omega))
  have LV := Lib.hid (L6.out.below hb (by omega))
  have BV := Lib.hid (B6.out.trans (hb.mono (by omega)))
  clear hb k0 k1 k2 X6 R6 I6 L6 B6 D4
  have y0 : v4.cell? ⟨w.heap.size + 1 + 1 + 1, 0, none⟩ = some (.int .i64 xo) := by rw [LV.out.cell]; rfl
  have y1 : v4.cell? ⟨w.heap.size + 1 + 1 + 1, 1, none⟩ = some (.int .i64 xa) := by rw [LV.out.cell]; rfl
  have y2 : v4.cell? ⟨w.heap.size + 1 + 1 + 1, 2, none⟩ = some (.int .i64 xb) := by rw [LV.out.cell]; rfl
  have y3 : v4.cell? ⟨w.heap.size + 1 + 1 + 1, 3, none⟩ = some (.int .i64 xc) := by rw [LV.out.cell]; rfl
  have l2 : w.heap.size + 1 + 1 + 1 < v4.heap.size := by omega
  have HCK := Lib.hid (fun w => rcheck_any xo xa xb xc xn w (by have := HX.out; omega) (by have := HX.out; omega))
  rw [HCH.out] at HCK
  go_wp2_with fail
  refine (HCK.out _).mono ?_
  rintro e v5 ⟨rfl, hb⟩
  have sv5 : v4.heap.size + 1 + 1 ≤ v5.heap.size := by simpa using hb.size
  have YY := (Blk.new v4 42 #[.slice A n c, .int .i64 p5, .bool false]).alloc (.cells (insC xo xa xb xc xn) 94) |>.below hb (by simp; omega)
  have YI := (Blk.at_ (w := v4.alloc (.cells #[.slice A n c, .int .i64 p5, .bool false] 42)) 94 (insC xo xa xb xc xn) (by simp) : Blk _ (v4.heap.size + 1) _ _) |>.below hb (by simp)
  have RZ := ((RV.out.alloc _).alloc _).below hb (by simp; omega)
  have IZ := ((IV.out.alloc _).alloc _).below hb (by simp; omega)
  have BZ := Lib.hid (((BV.out.alloc (by omega) _).alloc (by simp; omega) _).trans (hb.mono (by simp; omega)))
  have b0 : v5.cell? ⟨v4.heap.size, 0, none⟩ = some (.slice A n c) := by rw [YY.cell]; rfl
  have b1 : v5.cell? ⟨v4.heap.size, 1, none⟩ = some (.int .i64 p5) := by rw [YY.cell]; rfl
  have b2 : v5.cell? ⟨v4.heap.size, 2, none⟩ = some (.bool false) := by rw [YY.cell]; rfl
  have c0 : v5.cell? ⟨v4.heap.size + 1, 0, none⟩ = some (.int .i64 xo) := by rw [YI.cell]; rfl
  have c1 : v5.cell? ⟨v4.heap.size + 1, 1, none⟩ = some (.int .i64 xa) := by rw [YI.cell]; rfl
  have c2 : v5.cell? ⟨v4.heap.size + 1, 2, none⟩ = some (.int .i64 xb) := by rw [YI.cell]; rfl
  have c3 : v5.cell? ⟨v4.heap.size + 1, 3, none⟩ = some (.int .i64 xc) := by rw [YI.cell]; rfl
  have c4 : v5.cell? ⟨v4.heap.size + 1, 4, none⟩ = some (.int .i64 xn) := by rw [YI.cell]; rfl
  have r0 : v5.cell? ⟨w.heap.size + 1, 0, none⟩ = some (.slice none 0 0) := by rw [RZ.cell]; rfl
  have r1 : v5.cell? ⟨w.heap.size + 1, 1, none⟩ = some (.int .i64 0) := by rw [RZ.cell]; rfl
  have r2 : v5.cell? ⟨w.heap.size + 1, 2, none⟩ = some (.bool false) := by rw [RZ.cell]; rfl
  have i0 : v5.cell? ⟨w.heap.size + 1 + 1, 0, none⟩ = some (.int .i64 0) := by rw [IZ.cell]; rfl
  have i1 : v5.cell? ⟨w.heap.size + 1 + 1, 1, none⟩ = some (.int .i64 0) := by rw [IZ.cell]; rfl
  have i2 : v5.cell? ⟨w.heap.size + 1 + 1, 2, none⟩ = some (.int .i64 0) := by rw [IZ.cell]; rfl
  have i3 : v5.cell? ⟨w.heap.size + 1 + 1, 3, none⟩ = some (.int .i64 0) := by rw [IZ.cell]; rfl
  have i4 : v5.cell? ⟨w.heap.size + 1 + 1, 4, none⟩ = some (.int .i64 0) := by rw [IZ.cell]; rfl
  have rf0 : v5.frozen? ⟨w.heap.size + 1, 0, none⟩ = false := RZ.frozen 0
  have rf1 : v5.frozen? ⟨w.heap.size + 1, 1, none⟩ = false := RZ.frozen 1
  have rf2 : v5.frozen? ⟨w.heap.size + 1, 2, none⟩ = false := RZ.frozen 2
  have if0 : v5.frozen? ⟨w.heap.size + 1 + 1, 0, none⟩ = false := IZ.frozen 0
  have if1 : v5.frozen? ⟨w.heap.size + 1 + 1, 1, none⟩ = false := IZ.frozen 1
  have if2 : v5.frozen? ⟨w.heap.size + 1 + 1, 2, none⟩ = false := IZ.frozen 2
  have if3 : v5.frozen? ⟨w.heap.size + 1 + 1, 3, none⟩ = false := IZ.frozen 3
  have if4 : v5.frozen? ⟨w.heap.size + 1 + 1, 4, none⟩ = false := IZ.frozen 4
  obtain ⟨gq, hgq⟩ : ∃ q, q = v4.heap.size := ⟨_, rfl⟩
  rw [← hgq] at b0 b1 b2 c0 c1 c2 c3 c4 ⊢
  have l1 : w.heap.size + 1 + 1 < gq := by omega
  have l3 : gq + 1 < v5.heap.size := by omega
  have l4 : ¬ gq = w.heap.size + 1 := by omega
  have l5 : ¬ gq = w.heap.size + 1 + 1 := by omega
  have l6 : ¬ gq + 1 = w.heap.size + 1 := by omega
  have l7 : ¬ gq + 1 = w.heap.size + 1 + 1 := by omega
  clear hb YY YI RZ IZ RV IV LV BV y0 y1 y2 y3 l2 hgq
  by_cases hz : ch = 0
  · rw [if_pos hz] at HI
    subst hz
    go_wp2_with fail
    go_region
    all_goals
      go_wp2_with fail
      refine bodyPost_ret (v := .tuple #[.agg #[.slice A n c, .int .i64 p5, .bool false], .agg (insC xo xa xb xc xn), .int .i64 0]) ?_ rfl ⟨by rw [HI.out]; rfl, ?_⟩
      · simp [insC, results, Tryz.results87, go_sem, r0, r1, r2, i0, i1, i2, i3, i4]
      · have hB := BZ.out
        go_grown
  · rw [if_neg hz] at HI
    have hz2 : (ch == 0) = false := by simpa using hz
    have hz3 : (ch != 0) = true := by simpa using hz
    clear hz
    go_wp2_with fail
    refine bodyPost_ret (v := .tuple #[.agg #[.slice A n c, .int .i64 p5, .bool false], .agg (insC 0 0 0 0 0), .int .i64 ch]) ?_ rfl ⟨by rw [HI.out]; rfl, ?_⟩
    · simp [insC, results, Tryz.results87, go_sem, r0, r1, r2, i0, i1, i2, i3, i4]
    · have hB := BZ.out
      go_grown

end Go.Proofs.YtbknmapkdjmcjaaGreatDoor.By

namespace Go.Proofs.YtbknmapkdjmcjaaGreatDoor.By
open Go.RowKit
open Mem Gm Rf
set_option linter.unusedSimpArgs false
set_option linter.unusedVariables false

theorem rgetI_any (w : World) (A : Option Addr) (n c : Nat) (l : List UInt8) (s : Std) (hn : l.length = n) (hl : n ≤ 1000000) (hs : s.1 ≤ n) (hv : SlV w w.heap.size (.slice A n c) (u8s l)) :
    Calls Tryz.prog 87 #[.agg (rdC A n c s)] w fun e w' => e = .returned (.tuple #[.agg (rdC A n c (pgS l s 8)), .agg #[.int .i64 (inV5 l (s, 0)).1, .int .i64 (inV5 l (s, 0)).2.1, .int .i64 (inV5 l (s, 0)).2.2.1, .int .i64 (inV5 l (s, 0)).2.2.2.1, .int .i64 (inV5 l (s, 0)).2.2.2.2], .int .i64 (gotE l s.1 s.2)]) ∧ Below w.heap.size w w' := by
  obtain ⟨p, g⟩ := s
  rw [← gotI_eq l ((p, g), 0)]
  cases hf : fitsB l p g 8 with
  | false => exact rget_no w A n c l p g hn hs (by omega) hf
  | true =>
    obtain rfl : g = true := by unfold fitsB at hf; simp at hf; exact hf.1
    exact rget_yes w A n c l p hn (by omega) hf hv
theorem SlV.keepB {w w' : World} {A : Option Addr} {n c : Nat} {vs : List Value} (h : SlV w w.heap.size (.slice A n c) vs) (hk : ∀ ad, A = some ad → ad.block < w.heap.size → w'.heap[ad.block]? = w.heap[ad.block]?) (hs : w.heap.size ≤ w'.heap.size) : SlV w' w'.heap.size (.slice A n c) vs := by
  cases h with
  | nil => exact .nil
  | at_ ad cap _ hc hm h =>
    exact .at_ ad c vs hc hm fun j u hu => by
      obtain ⟨h1, h2⟩ := h j u hu
      refine ⟨by omega, (World.cell?_of_block (a := ad.add j) (by rw [add_block]; exact hk ad rfl h1)).trans h2⟩
theorem Wd.keepB {α : Type} {k : Nat} {enc : α → List Value} {w w' : World} {A : Option Addr} {n c : Nat} {l : List α} (h : Wd k enc w w.heap.size A n c l) (hk : ∀ ad, A = some ad → ad.block < w.heap.size → w'.heap[ad.block]? = w.heap[ad.block]?) (hs : w.heap.size ≤ w'.heap.size) : Wd k enc w' w'.heap.size A n c l :=
  ⟨h.1, h.2.1, h.2.2.1, h.2.2.2.1, fun i x hi => by
    obtain ⟨ad, e, hb, hc⟩ := h.2.2.2.2 i x hi
    refine ⟨ad, e, by omega, fun j u hu => ?_⟩
    exact (World.cell?_of_block (a := ((ad.add (i * k)).add j)) (by rw [add_block, add_block]; exact hk ad e hb)).trans (hc j u hu)⟩
theorem flIn_snoc (l : List In5) (x : In5) : flIn l ++ encIn x = flIn (l ++ [x]) := by simp [flIn]
def GqAns (g : Fn) (ge : Int) (s5 : Std) (w : World) (A : Option Addr) (n c : Nat) (e : Ending) (w' : World) : Prop :=
  ∃ (st : Std) (AK : Option Addr) (cK : Nat) (AL : Option Addr) (cL : Nat) (AC : Option Addr) (cC : Nat) (AR : Option Addr) (cR : Nat), e = .returned (.tuple #[.agg (rdC A n c st), .agg #[.int .i64 g.k, .slice AK g.ks.length cK, .int .i64 g.pd, .bool g.ns, .int .i64 g.f, .int .i64 g.t, .slice AL g.ls.length cL, .slice AC g.cs.length cC, .slice AR g.rs.length cR], .int .i64 ge]) ∧
    FnW w' AK g.ks.length cK AL g.ls.length cL AC g.cs.length cC AR g.rs.length cR g ∧ (ge = 0 → st = s5) ∧ Below w.heap.size w w'
theorem stI_le {l : List UInt8} {s : Std} (h : s.1 ≤ l.length) : ∀ k, (stI l s k).1 ≤ l.length
  | 0 => h
  | k + 1 => pgS_le (stI_le h k) 8

set_option maxRecDepth 100000 in
set_option maxHeartbeats 16000000 in
theorem getQ_any (w : World) (A : Option Addr) (n c : Nat) (l : List UInt8) (s : Std) (hn : l.length = n) (hl : n ≤ 1000000) (hs : s.1 ≤ n) (hv : SlV w w.heap.size (.slice A n c) (u8s l)) :
    Calls Tryz.prog 26 #[.agg (rdC A n c s)] w (GqAns (rqV l s) (rqE l s) (dRf l s).2 w A n c) := by
  obtain ⟨i0, hi, hz0, hz1, hz2⟩ := info_parts infoIn
  have hs1 : (dS1 l s).1 ≤ l.length := pgS_le (by omega) 1
  have hs1' : (pgS l (dS1 l s) 1).1 ≤ l.length := pgS_le hs1 1
  have hs2 : (dS2 l s).1 ≤ l.length := stQ_le hs1' _
  have hs3 : (dS3 l s).1 ≤ l.length := stQ_le hs2 _
  have hs3' : (pgS l (dS3 l s) 1).1 ≤ l.length := pgS_le hs3 1
  have hs4 : (dS4 l s).1 ≤ l.length := stQ_le hs3' _
  have hs5 : (dS5 l s).1 ≤ l.length := pgS_le hs4 1
  have hs6 : (dS6 l s).1 ≤ l.length := stI_le hs5 _
  have HQ1 := Lib.hid (fun W (hb : Below w.heap.size w W) => headQ_any W A n c l s hn hl hs ((hv.below hb).more hb.size))
  have HQ2 := Lib.hid (show ∀ W, Below w.heap.size w W → Calls Tryz.prog 86 #[.agg (rdC A n c (dS4 l s)), .int .i64 1, .bool false] W fun e w' => e = .returned (.tuple #[.agg (rdC A n c (dS5 l s)), .int .i64 (rvS l (dS4 l s) 1)]) ∧ Below W.heap.size W w' from fun W hb => by
    have := rnum_any W w.heap.size A c l (dS4 l s).1 (dS4 l s).2 false 1 hs4 (by omega) (by rw [hn]; exact hv.below hb)
    rw [hn] at this; exact this)
  have HQ3 := Lib.hid (show ∀ W k, Below w.heap.size w W → Calls Tryz.prog 87 #[.agg (rdC A n c (stI l (dS5 l s) k))] W fun e w' => e = .returned (.tuple #[.agg (rdC A n c (stI l (dS5 l s) (k + 1))), .agg #[.int .i64 (inV5 l (stI l (dS5 l s) k, 0)).1, .int .i64 (inV5 l (stI l (dS5 l s) k, 0)).2.1, .int .i64 (inV5 l (stI l (dS5 l s) k, 0)).2.2.1, .int .i64 (inV5 l (stI l (dS5 l s) k, 0)).2.2.2.1, .int .i64 (inV5 l (stI l (dS5 l s) k, 0)).2.2.2.2], .int .i64 (gotE l (stI l (dS5 l s) k).1 (stI l (dS5 l s) k).2)]) ∧ Below W.heap.size W w' from fun W k hb => rgetI_any W A n c l (stI l (dS5 l s) k) hn hl (by rw [← hn]; exact stI_le hs5 k) ((hv.below hb).more hb.size))
  have HQ4 := Lib.hid (show ∀ W, Below w.heap.size w W → Calls Tryz.prog 88 #[.agg (rdC A n c (dS6 l s))] W (RrAns (dRf l s) W A n c) from fun W hb => rgetR_any W A n c l (dS6 l s) hn hl (by omega) ((hv.below hb).more hb.size))
  have hk1 := num_one l (dS4 l s)
  obtain ⟨N, hN⟩ : ∃ N, dN3 l s = N := ⟨_, rfl⟩
  have hNB : N ≤ 255 := by rw [← hN]; unfold dN3; omega
  have hNI : rvS l (dS4 l s) 1 = (N : Int) := by rw [← hN]; unfold dN3; omega
  rw [hNI] at HQ2
  have hS0 : stI l (dS5 l s) 0 = dS5 l s := rfl
  have hSN : stI l (dS5 l s) N = dS6 l s := by rw [← hN]; rfl
  have HVN := Lib.hid (fun k => ciV_next l (dS5 l s) k)
  have HV0 := Lib.hid (show ciV l (dS5 l s) 0 = [] from rfl)
  have HVL := Lib.hid (fun k => ciV_len l (dS5 l s) k)
  -- what is answered, in each case
  have HE1 := Lib.hid (show hdE l s ≠ 0 → rqE l s = hdE l s ∧ rqV l s = fn0 from fun h => by
    have he : rqE l s = hdE l s := by unfold rqE; rw [if_pos h]
    exact ⟨he, by unfold rqV; rw [he, if_neg h]⟩)
  have HE2 := Lib.hid (show hdE l s = 0 → ∀ k, k ≤ N → ceE l (dS5 l s) k ≠ 0 → rqE l s = ceE l (dS5 l s) k ∧ rqV l s = fn0 from fun h k hk hc => by
    have h1 := ceE_fix hc N hk
    have he : rqE l s = ceE l (dS5 l s) k := by unfold rqE; rw [hN, h1]; simp [h, hc]
    exact ⟨he, by unfold rqV; rw [he, if_neg hc]⟩)
  have HE3 := Lib.hid (show hdE l s = 0 → ceE l (dS5 l s) N = 0 → rqE l s = rrE (dRf l s) ∧ (rrE (dRf l s) ≠ 0 → rqV l s = fn0) ∧ (rrE (dRf l s) = 0 → rqV l s = { hdF l s with cs := ciV l (dS5 l s) N, rs := rrL (dRf l s) }) from fun h hc => by
    have he : rqE l s = rrE (dRf l s) := by unfold rqE; rw [hN]; simp [h, hc]
    refine ⟨he, fun h2 => by unfold rqV; rw [he, if_neg h2], fun h2 => ?_⟩
    unfold rqV
    rw [he, if_pos h2, hN]
    unfold hdF
    rw [if_pos h])
  have HES := Lib.hid (show hdE l s = 0 → hdS l s = dS4 l s ∧ (hdF l s).ks.length ≤ 255 ∧ (hdF l s).ls.length ≤ 255 from fun h => by
    have h9 := hdE_ok h
    refine ⟨by unfold hdS; rw [if_neg h9.1], ?_, ?_⟩ <;> unfold hdF <;> rw [if_pos h]
    · show (dKs l s).length ≤ 255
      have := num_one l (dS1 l s)
      unfold dKs
      rw [vlQ_len]
      unfold dN1
      omega
    · show (dLs l s).length ≤ 255
      have := num_one l (dS3 l s)
      unfold dLs dVs
      rw [List.length_map, vlQ_len]
      unfold dN2
      omega)
  have HCB := Lib.hid (fun k => show ceE l (dS5 l s) (k + 1) = if ceE l (dS5 l s) k = 0 then gotE l (stI l (dS5 l s) k).1 (stI l (dS5 l s) k).2 else ceE l (dS5 l s) k from rfl)
  have HC0 := Lib.hid (show ceE l (dS5 l s) 0 = 0 from rfl)
  unfold HdAns at HQ1
  unfold GqAns
  generalize rqE l s = rE at HE1 HE2 HE3 ⊢
  generalize rqV l s = rV at HE1 HE2 HE3 ⊢
  generalize hdE l s = hE at HQ1 HE1 HE2 HE3 HES
  generalize hdF l s = g at HQ1 HE3 HES
  generalize hdS l s = hS at HQ1 HES
  generalize dRf l s = o at HQ4 HE3 ⊢
  generalize dS6 l s = t6 at HQ4 hSN hs6
  generalize dS5 l s = t5 at HQ2 HQ3 hS0 hSN HVN HV0 HVL HE2 HE3 HCB HC0 hs5 hs6
  generalize dS4 l s = t4 at HQ2 HES hk1 hNI hs4
  rw [← hSN] at HQ4
  rw [← hS0] at HQ2
  have HZX : ∀ k, ∃ x : In5, inV5 l (stI l t5 k, 0) = x := fun k => ⟨_, rfl⟩
  generalize stI l t5 = sq at HQ2 HQ3 HQ4 hSN HVN HCB hS0 HZX
  generalize ciV l t5 = cv at HVN HV0 HVL HE3
  generalize ceE l t5 = ce at HE2 HE3 HCB HC0
  obtain ⟨nK, hnK⟩ : ∃ m, g.ks.length = m := ⟨_, rfl⟩
  obtain ⟨nL, hnL⟩ : ∃ m, g.ls.length = m := ⟨_, rfl⟩
  rw [hnK, hnL] at HQ1 HES
  have HNK := Lib.hid hnK
  have HNL := Lib.hid hnL
  have HNB := Lib.hid hNB
  obtain ⟨W0, hW0⟩ : ∃ W0, ((w.alloc (.cells #[.slice A n c, .int .i64 (s.1 : Int), .bool (!s.2)] 42)).alloc (.cells #[.slice none 0 0, .int .i64 0, .bool false] 42)).alloc (.cells #[.int .i64 0, .slice none 0 0, .int .i64 0, .bool false, .int .i64 0, .int .i64 0, .slice none 0 0, .slice none 0 0, .slice none 0 0] 27) = W0 := ⟨_, rfl⟩
  have HS0 := Lib.hid (show HJ0 w #[.slice A n c, .int .i64 (s.1 : Int), .bool (!s.2)] W0 from by
    rw [← hW0]
    refine ⟨⟨((Blk.new w _ _).alloc _).alloc _, ?_, ?_⟩, to_ (to_ (alloc_ _ _) (alloc_ _ _)) (alloc_ _ _)⟩
    · have := Blk.new (w.alloc (.cells #[.slice A n c, .int .i64 (s.1 : Int), .bool (!s.2)] 42)) 42 #[.slice none 0 0, .int .i64 0, .bool false]
      rw [World.size_alloc] at this
      exact this.alloc _
    · have := Blk.new ((w.alloc (.cells #[.slice A n c, .int .i64 (s.1 : Int), .bool (!s.2)] 42)).alloc (.cells #[.slice none 0 0, .int .i64 0, .bool false] 42)) 27 #[.int .i64 0, .slice none 0 0, .int .i64 0, .bool false, .int .i64 0, .int .i64 0, .slice none 0 0, .slice none 0 0, .slice none 0 0]
      rwa [World.size_alloc, World.size_alloc] at this)
  rw [show rdC A n c s = #[.slice A n c, .int .i64 (s.1 : Int), .bool (!s.2)] from rfl] at HQ1 ⊢
  clear hv hs hn hl hs1 hs1' hs2 hs3 hs3' hs4 hs5 hs6 hk1 hN hNI hSN hS0 hnK hnL hNB
  obtain ⟨x0, x1, x2⟩ := blk_ce3 HS0.out.1.1
  go_enter Tryz.func26, Tryz.ntmps26
  go_wp2_with fail
  clear hW0 x0 x1 x2
  refine (HQ1.out W0 HS0.out.2).mono ?_
  rintro e w1 ⟨AK, cK, AL, cL, rfl, hK, hL, haK, haL, q1⟩
  obtain ⟨p1, b1, hr1, -⟩ := rdC_form A n c hS
  rw [hr1]
  have HR1 := Lib.hid hr1
  have HJ1 := Lib.hid (HS0.out.up q1)
  obtain ⟨x0, x1, x2⟩ := blk_ce3 HJ1.out.1.1
  obtain ⟨f0, f1, f2⟩ := blk_fr3 HJ1.out.1.1
  obtain ⟨wg1, hwg1⟩ : ∃ wg, (((w1).setCell ⟨w.heap.size, 0, none⟩ (.slice A n c)).setCell ⟨w.heap.size, 1, none⟩ (.int .i64 (p1 : Int))).setCell ⟨w.heap.size, 2, none⟩ (.bool b1) = wg := ⟨_, rfl⟩
  have HG1 := Lib.hid (show HJ0 w #[.slice A n c, .int .i64 (p1 : Int), .bool b1] wg1 from by rw [← hwg1]; exact HJ1.out.rd _ _ _)
  have HZ1 := Lib.hid (show wg1.heap.size = w1.heap.size from by rw [← hwg1]; simp [World.setCell])
  have HK1 := Lib.hid (show ∀ gg, gg ≠ w.heap.size → wg1.heap[gg]? = w1.heap[gg]? from fun gg hne => by rw [← hwg1]; exact heap_put3 w1 w.heap.size gg hne _ _ _)
  obtain ⟨W2, hW2⟩ : ∃ W2, wg1.alloc (.cells #[.int .i64 g.k, .slice AK nK cK, .int .i64 g.pd, .bool g.ns, .int .i64 g.f, .int .i64 g.t, .slice AL nL cL, .slice none 0 0, .slice none 0 0] 27) = W2 := ⟨_, rfl⟩
  have HJ2 := Lib.hid (show HJ0 w #[.slice A n c, .int .i64 (p1 : Int), .bool b1] W2 from by rw [← hW2]; exact HG1.out.new _)
  have HBD2 := Lib.hid (show Blk W2 w1.heap.size 27 #[.int .i64 g.k, .slice AK nK cK, .int .i64 g.pd, .bool g.ns, .int .i64 g.f, .int .i64 g.t, .slice AL nL cL, .slice none 0 0, .slice none 0 0] from by rw [← hW2, ← HZ1.out]; exact Blk.new wg1 _ _)
  have HKP2 := Lib.hid (show ∀ gg, w.heap.size + 2 < gg → gg < w1.heap.size → W2.heap[gg]? = w1.heap[gg]? from fun gg h1 h2 => by
    rw [← hW2]
    exact (Below.heap_alloc _ _ _ (by rw [HZ1.out]; exact h2)).trans (HK1.out gg (by omega)))
  have HS2 := Lib.hid (show W2.heap.size = w1.heap.size + 1 from by rw [← hW2, ← HZ1.out]; simp)
  have HDL := Lib.hid (show w.heap.size + 2 < w1.heap.size from HJ1.out.sz)
  have HKI := Lib.hid hK
  have HLI := Lib.hid hL
  have HAK := Lib.hid (show ∀ ad, AK = some ad → w.heap.size + 2 < ad.block from fun ad e => by have := haK ad e; have := HS0.out.sz; omega)
  have HAL := Lib.hid (show ∀ ad, AL = some ad → w.heap.size + 2 < ad.block from fun ad e => by have := haL ad e; have := HS0.out.sz; omega)
  obtain ⟨y0, y1, y2⟩ := blk_ce3 HJ2.out.1.1
  have lgH : w.heap.size < w1.heap.size := by have := HJ1.out.sz; omega
  have s7 : W2.setCell ⟨w1.heap.size, 7, none⟩ (.slice none 0 0) = W2 := by rw [← hW2, ← HZ1.out]; exact World.setCell_alloc_new _ _ _ _
  have s8 : W2.setCell ⟨w1.heap.size, 8, none⟩ (.slice none 0 0) = W2 := by rw [← hW2, ← HZ1.out]; exact World.setCell_alloc_new _ _ _ _
  have c7 : W2.cell? ⟨w1.heap.size, 7, none⟩ = some (.slice none 0 0) := HBD2.out.cell 7
  have c8 : W2.cell? ⟨w1.heap.size, 8, none⟩ = some (.slice none 0 0) := HBD2.out.cell 8
  have f7 : W2.frozen? ⟨w1.heap.size, 7, none⟩ = false := HBD2.out.frozen 7
  have f8 : W2.frozen? ⟨w1.heap.size, 8, none⟩ = false := HBD2.out.frozen 8
  rw [← hwg1] at hW2
  clear hwg1
  clear q1 hK hL haK haL
  by_cases he : hE = 0
  · subst he
    obtain ⟨hst, hn1, hn2⟩ := HES.out rfl
    rw [hst] at hr1 HR1
    rw [hr1] at HQ2
    have HNN := Lib.hid (show nK ≤ 255 ∧ nL ≤ 255 from ⟨hn1, hn2⟩)
    clear hst hn1 hn2
    obtain ⟨p2, b2, hr2, -⟩ := rdC_form A n c (sq 0)
    have HR2 := Lib.hid hr2
    rw [hr2] at HQ2
    clear hr1 hr2
    go_wp2_with fail
    clear hW2 x0 x1 x2 f0 f1 f2 y0 y1 y2 s7 s8 c7 c8 f7 f8
    refine (HQ2.out W2 HJ2.out.2).mono ?_
    rintro e w3 ⟨rfl, q3⟩
    have HJ3 := Lib.hid (HJ2.out.up q3)
    obtain ⟨x0, x1, x2⟩ := blk_ce3 HJ3.out.1.1
    obtain ⟨f0, f1, f2⟩ := blk_fr3 HJ3.out.1.1
    obtain ⟨wg3, hwg3⟩ : ∃ wg, (((w3).setCell ⟨w.heap.size, 0, none⟩ (.slice A n c)).setCell ⟨w.heap.size, 1, none⟩ (.int .i64 (p2 : Int))).setCell ⟨w.heap.size, 2, none⟩ (.bool b2) = wg := ⟨_, rfl⟩
    have HG3 := Lib.hid (show HJ0 w #[.slice A n c, .int .i64 (p2 : Int), .bool b2] wg3 from by rw [← hwg3]; exact HJ3.out.rd _ _ _)
    have HK3 := Lib.hid (show ∀ gg, gg ≠ w.heap.size → wg3.heap[gg]? = w3.heap[gg]? from fun gg hne => by rw [← hwg3]; exact heap_put3 w3 w.heap.size gg hne _ _ _)
    have HZ3 := Lib.hid (show wg3.heap.size = w3.heap.size from by rw [← hwg3]; simp [World.setCell])
    obtain ⟨y0, y1, y2⟩ := blk_ce3 HG3.out.1.1
    have HBD3 := Lib.hid (show Blk wg3 w1.heap.size 27 #[.int .i64 g.k, .slice AK nK cK, .int .i64 g.pd, .bool g.ns, .int .i64 g.f, .int .i64 g.t, .slice AL nL cL, .slice none 0 0, .slice none 0 0] from (HK3.out _ (by have := HDL.out; omega)).trans ((q3.block _ HBD2.out.lt).trans HBD2.out))
    have HKP3 := Lib.hid (show ∀ gg, w.heap.size + 2 < gg → gg < w1.heap.size → wg3.heap[gg]? = w1.heap[gg]? from fun gg h1 h2 => (HK3.out gg (by omega)).trans ((q3.block gg (by have := HS2.out; omega)).trans (HKP2.out gg h1 h2)))
    clear q3
    go_wp2_with fail
    clear hwg3 x0 x1 x2 f0 f1 f2 y0 y1 y2
    go_loopw [8] (fun i wr => ∃ (q : Nat) (v : Value), q ≤ N ∧ i = .int .i64 (q : Int) ∧ HJ0 w (rdC A n c (sq q)) wr ∧ Blk wr w1.heap.size 27 #[.int .i64 g.k, .slice AK nK cK, .int .i64 g.pd, .bool g.ns, .int .i64 g.f, .int .i64 g.t, .slice AL nL cL, v, .slice none 0 0] ∧ wr.ownsRow (w1.heap.size + 1) 94 5 v q (flIn (cv q)) ∧ Hid (∀ gg, w.heap.size + 2 < gg → gg < w1.heap.size → wr.heap[gg]? = w1.heap[gg]?) ∧ Hid (ce q = 0)) (fun i _ => N - (intOf i).toNat)
    case atStart => exact ⟨0, _, Nat.zero_le _, rfl, by rw [HR2.out]; exact HG3.out, HBD3.out, by rw [HV0.out]; exact World.ownsRow_nil _ _ _ _, HKP3, HC0⟩
    case round =>
      obtain ⟨q, v, hq, rfl, hj, hbd, hown, HKP, HCE⟩ := hrel
      obtain ⟨p, b, hr, -⟩ := rdC_form A n c (sq q)
      rw [hr] at hj
      have HR := Lib.hid hr
      have HJW := Lib.hid hj
      have HBD := Lib.hid hbd
      have HOW := Lib.hid hown
      clear hj hbd hown hr
      obtain ⟨x0, x1, x2⟩ := blk_ce3 HJW.out.1.1
      by_cases hlt : q < N
      · have hqI : (q : Int) < (N : Int) := by omega
        obtain ⟨p', b', hr', -⟩ := rdC_form A n c (sq (q + 1))
        have HR' := Lib.hid hr'
        have HQ := Lib.hid (HQ3.out wr q HJW.out.2)
        have HVQ := Lib.hid (HVN.out q)
        have HCQ := Lib.hid (HCB.out q)
        rw [HR.out, hr'] at HQ
        generalize inV5 l (sq q, 0) = x at HQ HVQ
        obtain ⟨xo, xa, xb, xc, xn⟩ := x
        generalize gotE l (sq q).1 (sq q).2 = ge at HQ HCQ
        clear hr'
        dsimp only at HQ
        go_wp2_with fail
        clear x0 x1 x2
        refine HQ.out.mono ?_
        rintro e w5 ⟨rfl, q5⟩
        have HJ5 := Lib.hid (HJW.out.up q5)
        have HBD5 := Lib.hid (HBD.out.below q5 HBD.out.lt)
        have HO5 := Lib.hid (ownk_keep (w' := w5) HOW.out fun gg _ hlt => q5.block gg hlt)
        have HKP5 := Lib.hid (show ∀ gg, w.heap.size + 2 < gg → gg < w1.heap.size → w5.heap[gg]? = w1.heap[gg]? from fun gg h1 h2 => (q5.block gg (by have := HBD.out.lt; omega)).trans (HKP.out gg h1 h2))
        obtain ⟨wf, hwf⟩ : ∃ wf, (w5.alloc (.cells #[.slice A n c, .int .i64 (p' : Int), .bool b'] 42)).alloc (.cells #[.int .i64 xo, .int .i64 xa, .int .i64 xb, .int .i64 xc, .int .i64 xn] 94) = wf := ⟨_, rfl⟩
        have HBF := Lib.hid (show Below w5.heap.size w5 wf from by rw [← hwf]; exact to_ (alloc_ _ _) (alloc_ _ _))
        have HXF := Lib.hid (show Blk wf w5.heap.size 42 #[.slice A n c, .int .i64 (p' : Int), .bool b'] from by rw [← hwf]; exact (Blk.new w5 _ _).alloc _)
        have HYF := Lib.hid (show Blk wf (w5.heap.size + 1) 94 #[.int .i64 xo, .int .i64 xa, .int .i64 xb, .int .i64 xc, .int .i64 xn] from by rw [← hwf]; exact Blk.at_ _ _ (by simp))
        have HJF := Lib.hid (HJ5.out.up HBF.out)
        have HSF := Lib.hid (show wf.heap.size = w5.heap.size + 2 from by rw [← hwf]; simp)
        clear q5
        obtain ⟨wg, hwg⟩ : ∃ wg, (((wf).setCell ⟨w.heap.size, 0, none⟩ (.slice A n c)).setCell ⟨w.heap.size, 1, none⟩ (.int .i64 (p' : Int))).setCell ⟨w.heap.size, 2, none⟩ (.bool b') = wg := ⟨_, rfl⟩
        have HJG := Lib.hid (show HJ0 w #[.slice A n c, .int .i64 (p' : Int), .bool b'] wg from by rw [← hwg]; exact HJF.out.rd _ _ _)
        have HKG := Lib.hid (show ∀ gg, gg ≠ w.heap.size → wg.heap[gg]? = wf.heap[gg]? from fun gg hne => by rw [← hwg]; exact heap_put3 wf w.heap.size gg hne _ _ _)
        have HSG := Lib.hid (show wg.heap.size = w5.heap.size + 2 from by rw [← HSF.out, ← hwg]; simp [World.setCell])
        have HBDG := Lib.hid (show Blk wg w1.heap.size 27 #[.int .i64 g.k, .slice AK nK cK, .int .i64 g.pd, .bool g.ns, .int .i64 g.f, .int .i64 g.t, .slice AL nL cL, v, .slice none 0 0] from (HKG.out _ (by have := HDL.out; omega)).trans ((HBF.out.block _ HBD5.out.lt).trans HBD5.out))
        have HOG := Lib.hid (ownk_keep (w' := wg) HO5.out fun gg hb hlt => (HKG.out gg (by have := HDL.out; omega)).trans (HBF.out.block gg hlt))
        have HKPG := Lib.hid (show ∀ gg, w.heap.size + 2 < gg → gg < w1.heap.size → wg.heap[gg]? = w1.heap[gg]? from fun gg h1 h2 => (HKG.out gg (by omega)).trans ((HBF.out.block gg (by have := HBD5.out.lt; omega)).trans (HKP5.out gg h1 h2)))
        have HYG := Lib.hid (show Blk wg (w5.heap.size + 1) 94 #[.int .i64 xo, .int .i64 xa, .int .i64 xb, .int .i64 xc, .int .i64 xn] from (HKG.out _ (by have := HJ5.out.sz; omega)).trans HYF.out)
        obtain ⟨x0, x1, x2⟩ := blk_ce3 HJF.out.1.1
        obtain ⟨f0, f1, f2⟩ := blk_fr3 HJF.out.1.1
        obtain ⟨t0, t1, t2⟩ := blk_ce3 HXF.out
        by_cases hg : ge = 0
        · subst hg
          obtain ⟨g0, g1, g2⟩ := (show wg.cell? ⟨w5.heap.size + 1, 0, none⟩ = some (.int .i64 xo) ∧ wg.cell? ⟨w5.heap.size + 1, 1, none⟩ = some (.int .i64 xa) ∧ wg.cell? ⟨w5.heap.size + 1, 2, none⟩ = some (.int .i64 xb) from ⟨HYG.out.cell 0, HYG.out.cell 1, HYG.out.cell 2⟩)
          have g3 : wg.cell? ⟨w5.heap.size + 1, 3, none⟩ = some (.int .i64 xc) := HYG.out.cell 3
          have g4 : wg.cell? ⟨w5.heap.size + 1, 4, none⟩ = some (.int .i64 xn) := HYG.out.cell 4
          have cD : wg.cell? ⟨w1.heap.size, 7, none⟩ = some v := HBDG.out.cell 7
          have HCN := Lib.hid (show ce (q + 1) = 0 from by rw [HCQ.out, if_pos HCE.out])
          have hDw : w1.heap.size < wg.heap.size := HBDG.out.lt
          have hN9 : N ≤ 255 := HNB.out
          have HLT := Lib.hid hlt
          go_wp2_with (at_builtin; go_loud (refine wpList_append_own _ rfl _ _ 24 rfl (w1.heap.size + 1) 94 i0 (.agg #[.int .i64 0, .int .i64 0, .int .i64 0, .int .i64 0, .int .i64 0]) 5 40 Tryz.underlying24 hi hz0 hz1 hz2 rfl (by decide) _ _ _ rfl (ownk_keep HOG.out fun gg hb hlt => Below.heap_alloc _ _ _ hlt) ⟨wg.heap.size, 0, none⟩ 1 1 (encIn (xo, xa, xb, xc, xn)) rfl rfl (fun j u hu => by rw [add_plain, Nat.zero_add]; exact ((Blk.new wg 94 #[.int .i64 xo, .int .i64 xa, .int .i64 xb, .int .i64 xc, .int .i64 xn]).cell j).trans (by simpa [encIn] using hu)) (by simp [encIn, Value.oneCell']) (by unfold maxLen; have := HNB.out; omega) (by have := HNB.out; omega) (by simp; omega) ?_; intro v' w6 h2 h3 h4; clear h4; obtain ⟨A', c', rfl⟩ := own_formW h2; have H2 := Lib.hid h2; have H3 := Lib.hid h3; have hb6 : Below (w1.heap.size + 1) wg w6 := ((alloc_ wg _).mono (by omega)).grown h3 (by simp; omega) (fun r e => (HOG.out.lt r e).1); have HB6 := Lib.hid hb6; have HBD6 := Lib.hid (HBDG.out.below hb6 (by omega)); have cD6 : w6.cell? ⟨w1.heap.size, 7, none⟩ = some v := HBD6.out.cell 7; have fD6 : w6.frozen? ⟨w1.heap.size, 7, none⟩ = false := HBD6.out.frozen 7; clear h2 h3 hb6))
          clear x0 x1 x2 f0 f1 f2 t0 t1 t2 g0 g1 g2 g3 g4 cD cD6 fD6 hwf hwg
          go_roundw
          case rel =>
            refine ⟨q + 1, _, by have := HLT.out; omega, by go_num, by rw [HR'.out]; exact (HJG.out.on HB6.out (by have := HDL.out; omega)).far ⟨w1.heap.size, 7, none⟩ _ (by show w.heap.size + 2 < w1.heap.size; exact HDL.out), HBD6.out.stored 7 _, ?_, Lib.hid fun gg h1 h2 => (Below.heap_setCell _ ⟨w1.heap.size, 7, none⟩ _ gg (by show gg ≠ w1.heap.size; omega)).trans ((HB6.out.block gg (by omega)).trans (HKPG.out gg h1 h2)), HCN⟩
            rw [HVQ.out]
            rw [← flIn_snoc]
            exact ownk_keep H2.out fun gg hb _ => Below.heap_setCell _ ⟨w1.heap.size, 7, none⟩ _ gg (by show gg ≠ w1.heap.size; omega)
          case measure => have := HLT.out; simp [intOf]; omega
        · have hE1 : (ge != 0) = true := by simpa using hg
          have hE2 : (ge == 0) = false := by simpa using hg
          have HNG := Lib.hid hg
          have HLT := Lib.hid hlt
          clear hg
          obtain ⟨W9, hW9⟩ : ∃ W9, set9 ((((wg).setCell ⟨w.heap.size + 1, 0, none⟩ (.slice A n c)).setCell ⟨w.heap.size + 1, 1, none⟩ (.int .i64 (p' : Int))).setCell ⟨w.heap.size + 1, 2, none⟩ (.bool b')) (w.heap.size + 1 + 1) (.int .i64 0) (.slice none 0 0) (.int .i64 0) (.bool false) (.int .i64 0) (.int .i64 0) (.slice none 0 0) (.slice none 0 0) (.slice none 0 0) = W9 := ⟨_, rfl⟩
          have HPZ := Lib.hid (HJ0.put HJG.out (.slice A n c) (.int .i64 (p' : Int)) (.bool b') (.int .i64 0) (.slice none 0 0) (.int .i64 0) (.bool false) (.int .i64 0) (.int .i64 0) (.slice none 0 0) (.slice none 0 0) (.slice none 0 0) W9 hW9)
          obtain ⟨y0, y1, y2⟩ := blk_ce3 HJG.out.1.1
          obtain ⟨r0, r1, r2⟩ := blk_ce3 HJG.out.1.2.1
          obtain ⟨q0, q1, q2⟩ := blk_fr3 HJG.out.1.2.1
          obtain ⟨u0, u1, u2, u3, u4, u5, u6, u7, u8⟩ := blk9 HJG.out.1.2.2
          obtain ⟨m0, m1, m2, m3, m4, m5, m6, m7, m8⟩ := blk9f HJG.out.1.2.2
          go_wp2_with fail
          unfold set9 at hW9
          rw [hW9]
          clear y0 y1 y2 r0 r1 r2 q0 q1 q2 u0 u1 u2 u3 u4 u5 u6 u7 u8 m0 m1 m2 m3 m4 m5 m6 m7 m8
          obtain ⟨z0, z1, z2⟩ := blk_ce3 HPZ.out.1
          obtain ⟨m0, m1, m2, m3, m4, m5, m6, m7, m8⟩ := blk9 HPZ.out.2.1
          refine bodyPost_ret (v := .tuple #[.agg #[.slice A n c, .int .i64 (p' : Int), .bool b'], .agg #[.int .i64 0, .slice none 0 0, .int .i64 0, .bool false, .int .i64 0, .int .i64 0, .slice none 0 0, .slice none 0 0, .slice none 0 0], .int .i64 ge]) (by simp [results, Tryz.results26, go_sem, z0, z1, z2, m0, m1, m2, m3, m4, m5, m6, m7, m8]) rfl ?_
          have hcn : ce (q + 1) = ge := by rw [HCQ.out, if_pos HCE.out]
          obtain ⟨e1, e2⟩ := HE2.out (by simp) (q + 1) (by have := HLT.out; omega) (by rw [hcn]; exact HNG.out)
          rw [e1, e2, hcn]
          exact ⟨sq (q + 1), none, 0, none, 0, none, 0, none, 0, by rw [HR'.out]; rfl, ⟨.nil, rfl, Wd.nil, Wd.nil, Wd.nil⟩, (fun e => absurd e HNG.out), HPZ.out.2.2.1⟩
      · obtain rfl : q = N := by omega
        have HQ := Lib.hid (HQ4.out wr HJW.out.2)
        unfold RrAns at HQ
        rw [HR.out] at HQ
        obtain ⟨AC, cC, rfl⟩ := own_formW HOW.out
        clear hlt hq
        go_wp2_with fail
        clear x0 x1 x2
        refine HQ.out.mono ?_
        rintro e w5 ⟨st, A5, c5, rfl, h5, ht5, ha5, q5⟩
        obtain ⟨p5, b5, hr5, -⟩ := rdC_form A n c st
        rw [hr5]
        have HR5 := Lib.hid hr5
        obtain ⟨L, hL⟩ : ∃ L, (rrL o).length = L := ⟨_, rfl⟩
        have HL5 := Lib.hid hL
        rw [hL] at h5 ⊢
        have H5 := Lib.hid h5
        have HT5 := Lib.hid ht5
        have HA5 := Lib.hid (show ∀ ad, A5 = some ad → w1.heap.size < ad.block from fun ad e => by have := ha5 ad e; have := HBD.out.lt; omega)
        have HJ5 := Lib.hid (HJW.out.up q5)
        obtain ⟨x0, x1, x2⟩ := blk_ce3 HJ5.out.1.1
        obtain ⟨f0, f1, f2⟩ := blk_fr3 HJ5.out.1.1
        obtain ⟨wg5, hwg5⟩ : ∃ wg, (((w5).setCell ⟨w.heap.size, 0, none⟩ (.slice A n c)).setCell ⟨w.heap.size, 1, none⟩ (.int .i64 (p5 : Int))).setCell ⟨w.heap.size, 2, none⟩ (.bool b5) = wg := ⟨_, rfl⟩
        have HG5 := Lib.hid (show HJ0 w #[.slice A n c, .int .i64 (p5 : Int), .bool b5] wg5 from by rw [← hwg5]; exact HJ5.out.rd _ _ _)
        have HK5 := Lib.hid (show ∀ gg, gg ≠ w.heap.size → wg5.heap[gg]? = w5.heap[gg]? from fun gg hne => by rw [← hwg5]; exact heap_put3 w5 w.heap.size gg hne _ _ _)
        have HZ5 := Lib.hid (show wg5.heap.size = w5.heap.size from by rw [← hwg5]; simp [World.setCell])
        obtain ⟨y0, y1, y2⟩ := blk_ce3 HG5.out.1.1
        have HBDG := Lib.hid (show Blk wg5 w1.heap.size 27 #[.int .i64 g.k, .slice AK nK cK, .int .i64 g.pd, .bool g.ns, .int .i64 g.f, .int .i64 g.t, .slice AL nL cL, .slice AC q cC, .slice none 0 0] from (HK5.out _ (by have := HDL.out; omega)).trans ((q5.block _ HBD.out.lt).trans HBD.out))
        have HOG := Lib.hid (show wg5.ownsRow (w1.heap.size + 1) 94 5 (.slice AC q cC) q (flIn (cv q)) from ownk_keep HOW.out fun gg hb hlt => (HK5.out gg (by have := HDL.out; omega)).trans (q5.block gg hlt))
        have HKPG := Lib.hid (show ∀ gg, w.heap.size + 2 < gg → gg < w1.heap.size → wg5.heap[gg]? = w1.heap[gg]? from fun gg h1 h2 => (HK5.out gg (by omega)).trans ((q5.block gg (by have := HBD.out.lt; omega)).trans (HKP.out gg h1 h2)))
        obtain ⟨er, her⟩ : ∃ x, rrE o = x := ⟨_, rfl⟩
        have HER := Lib.hid her
        rw [her] at ⊢
        clear q5 h5 ht5 ha5 hL hr5 her
        by_cases he : er = 0
        · subst he
          obtain ⟨wz, hwz⟩ : ∃ wz, wg5.setCell ⟨w1.heap.size, 8, none⟩ (.slice A5 L c5) = wz := ⟨_, rfl⟩
          have HJZ := Lib.hid (show HJ0 w #[.slice A n c, .int .i64 (p5 : Int), .bool b5] wz from by rw [← hwz]; exact HG5.out.far ⟨w1.heap.size, 8, none⟩ _ (by show w.heap.size + 2 < w1.heap.size; exact HDL.out))
          have HBZ := Lib.hid (show Blk wz w1.heap.size 27 #[.int .i64 g.k, .slice AK nK cK, .int .i64 g.pd, .bool g.ns, .int .i64 g.f, .int .i64 g.t, .slice AL nL cL, .slice AC q cC, .slice A5 L c5] from by rw [← hwz]; exact HBDG.out.stored 8 _)
          have HKZ := Lib.hid (show ∀ gg, gg ≠ w1.heap.size → wz.heap[gg]? = wg5.heap[gg]? from fun gg hne => by rw [← hwz]; exact Below.heap_setCell _ ⟨w1.heap.size, 8, none⟩ _ gg hne)
          have HSZ := Lib.hid (show wz.heap.size = wg5.heap.size from by rw [← hwz]; simp [World.setCell])
          obtain ⟨d0, d1, d2, d3, d4, d5, d6, d7, d8⟩ := blk9 HBDG.out
          obtain ⟨g0, g1, g2, g3, g4, g5, g6, g7, g8⟩ := blk9f HBDG.out
          have hDs : w.heap.size + 2 < w1.heap.size := HDL.out
          go_wp2_with fail
          clear hwg5 hwz x0 x1 x2 f0 f1 f2 y0 y1 y2 d0 d1 d2 d3 d4 d5 d6 d7 d8 g0 g1 g2 g3 g4 g5 g6 g7 g8
          obtain ⟨d0, d1, d2, d3, d4, d5, d6, d7, d8⟩ := blk9 HBZ.out
          obtain ⟨W9, hW9⟩ : ∃ W9, set9 ((((wz).setCell ⟨w.heap.size + 1, 0, none⟩ (.slice A n c)).setCell ⟨w.heap.size + 1, 1, none⟩ (.int .i64 (p5 : Int))).setCell ⟨w.heap.size + 1, 2, none⟩ (.bool b5)) (w.heap.size + 1 + 1) (.int .i64 g.k) (.slice AK nK cK) (.int .i64 g.pd) (.bool g.ns) (.int .i64 g.f) (.int .i64 g.t) (.slice AL nL cL) (.slice AC q cC) (.slice A5 L c5) = W9 := ⟨_, rfl⟩
          have HPZ := Lib.hid (HJ0.put HJZ.out (.slice A n c) (.int .i64 (p5 : Int)) (.bool b5) (.int .i64 g.k) (.slice AK nK cK) (.int .i64 g.pd) (.bool g.ns) (.int .i64 g.f) (.int .i64 g.t) (.slice AL nL cL) (.slice AC q cC) (.slice A5 L c5) W9 hW9)
          obtain ⟨y0, y1, y2⟩ := blk_ce3 HJZ.out.1.1
          obtain ⟨r0, r1, r2⟩ := blk_ce3 HJZ.out.1.2.1
          obtain ⟨q0, q1, q2⟩ := blk_fr3 HJZ.out.1.2.1
          obtain ⟨u0, u1, u2, u3, u4, u5, u6, u7, u8⟩ := blk9 HJZ.out.1.2.2
          obtain ⟨m0, m1, m2, m3, m4, m5, m6, m7, m8⟩ := blk9f HJZ.out.1.2.2
          go_region
          go_wp2_with fail
          unfold set9 at hW9
          rw [hW9]
          clear y0 y1 y2 r0 r1 r2 q0 q1 q2 u0 u1 u2 u3 u4 u5 u6 u7 u8 m0 m1 m2 m3 m4 m5 m6 m7 m8
          obtain ⟨z0, z1, z2⟩ := blk_ce3 HPZ.out.1
          obtain ⟨m0, m1, m2, m3, m4, m5, m6, m7, m8⟩ := blk9 HPZ.out.2.1
          refine bodyPost_ret (v := .tuple #[.agg #[.slice A n c, .int .i64 (p5 : Int), .bool b5], .agg #[.int .i64 g.k, .slice AK nK cK, .int .i64 g.pd, .bool g.ns, .int .i64 g.f, .int .i64 g.t, .slice AL nL cL, .slice AC q cC, .slice A5 L c5], .int .i64 0]) (by simp [results, Tryz.results26, go_sem, z0, z1, z2, m0, m1, m2, m3, m4, m5, m6, m7, m8]) rfl ?_
          obtain ⟨e1, _, e3⟩ := HE3.out (by simp) HCE.out
          rw [e1, e3 HER.out, HER.out]
          have hkp : ∀ gg, w.heap.size + 2 < gg → gg ≠ w1.heap.size → W9.heap[gg]? = wg5.heap[gg]? := fun gg hg hne => (HPZ.out.2.2.2 gg (by omega) (by omega)).trans (HKZ.out gg hne)
          have hs9 : wg5.heap.size ≤ W9.heap.size := by rw [← hW9]; have := HSZ.out; simp [World.setCell]; omega
          refine ⟨st, AK, cK, AL, cL, AC, cC, A5, c5, ?_, ⟨?_, ?_, ?_, ?_, ?_⟩, (fun _ => HT5.out HER.out), HPZ.out.2.2.1.drew⟩
          · dsimp only
            rw [HNK.out, HNL.out, HVL.out, HL5.out, HR5.out]
          · dsimp only
            rw [HNK.out]
            exact SlV.keepB HKI.out (fun ad e hb => (hkp ad.block (HAK.out ad e) (by omega)).trans (HKPG.out ad.block (HAK.out ad e) hb)) (show w1.heap.size ≤ W9.heap.size by have := HBDG.out.lt; omega)
          · exact rfl
          · dsimp only
            rw [HNL.out]
            exact Wd.keepB HLI.out (fun ad e hb => (hkp ad.block (HAL.out ad e) (by omega)).trans (HKPG.out ad.block (HAL.out ad e) hb)) (show w1.heap.size ≤ W9.heap.size by have := HBDG.out.lt; omega)
          · dsimp only
            rw [HVL.out]
            exact wd_own_at encIn_len (HVL.out q) (ownk_keep HOG.out fun gg hb _ => hkp gg (by have := HDL.out; omega) (by omega))
          · dsimp only
            rw [HL5.out]
            exact Wd.keepB (w := w5) H5.out (fun ad e _ => (hkp ad.block (by have := HA5.out ad e; have := HDL.out; omega) (by have := HA5.out ad e; omega)).trans (HK5.out _ (by have := HA5.out ad e; have := HDL.out; omega))) (show w5.heap.size ≤ W9.heap.size by have := HZ5.out; omega)
        · have hE1 : (er != 0) = true := by simpa using he
          have hE2 : (er == 0) = false := by simpa using he
          have HNE := Lib.hid he
          clear he y0 y1 y2
          obtain ⟨W9, hW9⟩ : ∃ W9, set9 ((((wg5).setCell ⟨w.heap.size + 1, 0, none⟩ (.slice A n c)).setCell ⟨w.heap.size + 1, 1, none⟩ (.int .i64 (p5 : Int))).setCell ⟨w.heap.size + 1, 2, none⟩ (.bool b5)) (w.heap.size + 1 + 1) (.int .i64 0) (.slice none 0 0) (.int .i64 0) (.bool false) (.int .i64 0) (.int .i64 0) (.slice none 0 0) (.slice none 0 0) (.slice none 0 0) = W9 := ⟨_, rfl⟩
          have HPZ := Lib.hid (HJ0.put HG5.out (.slice A n c) (.int .i64 (p5 : Int)) (.bool b5) (.int .i64 0) (.slice none 0 0) (.int .i64 0) (.bool false) (.int .i64 0) (.int .i64 0) (.slice none 0 0) (.slice none 0 0) (.slice none 0 0) W9 hW9)
          obtain ⟨y0, y1, y2⟩ := blk_ce3 HG5.out.1.1
          obtain ⟨r0, r1, r2⟩ := blk_ce3 HG5.out.1.2.1
          obtain ⟨q0, q1, q2⟩ := blk_fr3 HG5.out.1.2.1
          obtain ⟨u0, u1, u2, u3, u4, u5, u6, u7, u8⟩ := blk9 HG5.out.1.2.2
          obtain ⟨m0, m1, m2, m3, m4, m5, m6, m7, m8⟩ := blk9f HG5.out.1.2.2
          go_wp2_with fail
          unfold set9 at hW9
          rw [hW9]
          clear y0 y1 y2 r0 r1 r2 q0 q1 q2 u0 u1 u2 u3 u4 u5 u6 u7 u8 m0 m1 m2 m3 m4 m5 m6 m7 m8
          obtain ⟨z0, z1, z2⟩ := blk_ce3 HPZ.out.1
          obtain ⟨m0, m1, m2, m3, m4, m5, m6, m7, m8⟩ := blk9 HPZ.out.2.1
          refine bodyPost_ret (v := .tuple #[.agg #[.slice A n c, .int .i64 (p5 : Int), .bool b5], .agg #[.int .i64 0, .slice none 0 0, .int .i64 0, .bool false, .int .i64 0, .int .i64 0, .slice none 0 0, .slice none 0 0, .slice none 0 0], .int .i64 er]) (by simp [results, Tryz.results26, go_sem, z0, z1, z2, m0, m1, m2, m3, m4, m5, m6, m7, m8]) rfl ?_
          obtain ⟨e1, e2, _⟩ := HE3.out (by simp) HCE.out
          rw [e1, e2 (by rw [HER.out]; exact HNE.out), HER.out]
          exact ⟨st, none, 0, none, 0, none, 0, none, 0, by rw [HR5.out]; rfl, ⟨.nil, rfl, Wd.nil, Wd.nil, Wd.nil⟩, (fun e => absurd e HNE.out), HPZ.out.2.2.1⟩
  · have hE1 : (hE != 0) = true := by simpa using he
    have hE2 : (hE == 0) = false := by simpa using he
    have HNE := Lib.hid he
    clear he
    clear y0 y1 y2
    obtain ⟨W9, hW9⟩ : ∃ W9, set9 ((((W2).setCell ⟨w.heap.size + 1, 0, none⟩ (.slice A n c)).setCell ⟨w.heap.size + 1, 1, none⟩ (.int .i64 (p1 : Int))).setCell ⟨w.heap.size + 1, 2, none⟩ (.bool b1)) (w.heap.size + 1 + 1) (.int .i64 0) (.slice none 0 0) (.int .i64 0) (.bool false) (.int .i64 0) (.int .i64 0) (.slice none 0 0) (.slice none 0 0) (.slice none 0 0) = W9 := ⟨_, rfl⟩
    have HPZ := Lib.hid (HJ0.put HJ2.out (.slice A n c) (.int .i64 (p1 : Int)) (.bool b1) (.int .i64 0) (.slice none 0 0) (.int .i64 0) (.bool false) (.int .i64 0) (.int .i64 0) (.slice none 0 0) (.slice none 0 0) (.slice none 0 0) W9 hW9)
    obtain ⟨y0, y1, y2⟩ := blk_ce3 HJ2.out.1.1
    obtain ⟨r0, r1, r2⟩ := blk_ce3 HJ2.out.1.2.1
    obtain ⟨q0, q1, q2⟩ := blk_fr3 HJ2.out.1.2.1
    obtain ⟨u0, u1, u2, u3, u4, u5, u6, u7, u8⟩ := blk9 HJ2.out.1.2.2
    obtain ⟨m0, m1, m2, m3, m4, m5, m6, m7, m8⟩ := blk9f HJ2.out.1.2.2
    go_wp2_with fail
    unfold set9 at hW9
    rw [hW9]
    clear y0 y1 y2 r0 r1 r2 q0 q1 q2 u0 u1 u2 u3 u4 u5 u6 u7 u8 m0 m1 m2 m3 m4 m5 m6 m7 m8
    obtain ⟨z0, z1, z2⟩ := blk_ce3 HPZ.out.1
    obtain ⟨m0, m1, m2, m3, m4, m5, m6, m7, m8⟩ := blk9 HPZ.out.2.1
    refine bodyPost_ret (v := .tuple #[.agg #[.slice A n c, .int .i64 (p1 : Int), .bool b1], .agg #[.int .i64 0, .slice none 0 0, .int .i64 0, .bool false, .int .i64 0, .int .i64 0, .slice none 0 0, .slice none 0 0, .slice none 0 0], .int .i64 hE]) (by simp [results, Tryz.results26, go_sem, z0, z1, z2, m0, m1, m2, m3, m4, m5, m6, m7, m8]) rfl ?_
    obtain ⟨e1, e2⟩ := HE1.out HNE.out
    rw [e1, e2]
    exact ⟨hS, none, 0, none, 0, none, 0, none, 0, by rw [HR1.out]; rfl, ⟨.nil, rfl, Wd.nil, Wd.nil, Wd.nil⟩, (fun e => absurd e HNE.out), HPZ.out.2.2.1⟩
end Go.Proofs.YtbknmapkdjmcjaaGreatDoor.By
