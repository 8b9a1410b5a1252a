/-
  WALK of layer 8: the document's own Get.
-/
import Derived.Test.YtieacapdfeljfaaDoorIj
import Derived.Test.YtieacapdfeljfaaDoorIe
import Derived.Test.YtieacapdfeljfaaDoorRg
namespace Go.Proofs.YtieacapdfeljfaaDoor.Mem
open Go.RowKit

theorem Blk.other {w : World} {g G : Nat} {t : TypeId} {cs : Array Value} (h : Blk w g t cs) (hne : g ≠ G) (i : Nat) (u : Value) : Blk (w.setCell ⟨G, i, none⟩ u) g t cs :=
  h.only (only_set (only_refl w G) i u) hne

/-- Cells of a block of three that were written. -/
theorem Blk.three {w : World} {g : Nat} {t : TypeId} {x y z : Value} (h : Blk w g t #[x, y, z]) (x' y' z' : Value) : Blk (((w.setCell ⟨g, 0, none⟩ x').setCell ⟨g, 1, none⟩ y').setCell ⟨g, 2, none⟩ z') g t #[x', y', z'] :=
  ((h.stored 0 x').stored 1 y').stored 2 z'

end Go.Proofs.YtieacapdfeljfaaDoor.Mem
namespace Go.Proofs.YtieacapdfeljfaaDoor.By
open Go.ChangeShapes Go.WideShapes Go.ChangeAt Go.RowKit
open Mem

def RGot (w : World) (A : Option Addr) (n c : Nat) (l : List UInt8) (p : Nat) (good : Bool) (e : Ending) (w' : World) : Prop :=
  e = .returned (.tuple #[.agg #[.slice A n c, .int .i64 (readP l p good 8), .bool (!fitsB l p good 8)], .agg (gotI l p good), .int .i64 (gotE l p good)]) ∧ Below w.heap.size w w'

theorem rdO_in (l : List UInt8) (p : Nat) : 0 ≤ rdO l p ∧ rdO l p ≤ 255 := by
  unfold rdO readV
  split
  · have : ∀ us : List UInt8, us.length ≤ 1 → 0 ≤ numV false us ∧ numV false us ≤ 255 := by
      intro us hus
      match us, hus with
      | [], _ => exact ⟨by simp [numV], by simp [numV]⟩
      | [x], _ =>
        have := x.toNat_lt
        simp [numV, acc]
        omega
    exact this _ (by simp; omega)
  · omega

theorem rnum_there (w : World) (B : Nat) (A : Option Addr) (n c : Nat) (l : List UInt8) (p : Nat) (sg : Bool) (k : Int) (hn : l.length = n) (h1 : 1 ≤ k) (h8 : k ≤ 8) (hp : p + k ≤ l.length) (hl : l.length ≤ 1099511627776) (hv : SlV w B (.slice A n c) (u8s l)) :
    Calls Tryd.prog 31 #[.agg #[.slice A n c, .int .i64 p, .bool false], .int .i64 k, .bool sg] w (RNum w A n c (p + k.toNat) false (readV sg l p true k)) := by
  subst hn
  have hf := fits_yes l p k h1 h8 hp
  have h := rnum_any w B A c l p true sg k (by omega) hl hv
  rw [hf.1, hf.2] at h
  exact h

set_option maxHeartbeats 4000000 in
theorem rget_no (w : World) (A : Option Addr) (n c : Nat) (l : List UInt8) (p : Nat) (good : Bool) (hn : l.length = n) (hle : p ≤ n) (hl : n ≤ 1099511627776) (hf : fitsB l p good 8 = false) :
    Calls Tryd.prog 34 #[.agg #[.slice A n c, .int .i64 p, .bool (!good)]] w (RGot w A n c l p good) := by
  have HG := Lib.hid (show gotI l p good = insC 0 0 0 0 0 ∧ gotE l p good = 5 ∧ readP l p good 8 = p from ⟨by unfold gotI; rw [hf]; simp, by unfold gotE; rw [hf]; simp, by unfold readP; rw [hf]; simp⟩)
  unfold RGot
  rw [HG.out.1, HG.out.2.1, HG.out.2.2, hf]
  cases good with
  | false =>
    clear hf HG
    go_enter Tryd.func34, Tryd.ntmps34
    go_wp2_with fail
    refine bodyPost_ret (v := .tuple #[.agg #[.slice A n c, .int .i64 p, .bool true], .agg (insC 0 0 0 0 0), .int .i64 5]) ?_ rfl ⟨rfl, ?_⟩
    · simp [insC, results, Tryd.results34, go_sem]
    · go_grown
  | true =>
    have hsh : (n : Int) - p < 8 := by
      unfold fitsB at hf; simp at hf; omega
    have hd : decide ((n : Int) - p < 8) = true := by simpa using hsh
    clear hf HG hsh
    go_enter Tryd.func34, Tryd.ntmps34
    go_wp2_with fail
    refine bodyPost_ret (v := .tuple #[.agg #[.slice A n c, .int .i64 p, .bool true], .agg (insC 0 0 0 0 0), .int .i64 5]) ?_ rfl ⟨rfl, ?_⟩
    · simp [insC, results, Tryd.results34, go_sem]
    · go_grown

set_option maxHeartbeats 8000000 in
theorem rget_yes (w : World) (A : Option Addr) (n c : Nat) (l : List UInt8) (p : Nat) (hn : l.length = n) (hl : n ≤ 1099511627776) (hf : fitsB l p true 8 = true) (hv : SlV w w.heap.size (.slice A n c) (u8s l)) :
    Calls Tryd.prog 34 #[.agg #[.slice A n c, .int .i64 p, .bool false]] w (RGot w A n c l p true) := by
  have hp : p + 8 ≤ l.length := by unfold fitsB at hf; simp at hf; omega
  have hpp : readP l p true 8 = p + 8 := (fits_yes l p 8 (by omega) (by omega) (by omega)).2
  have hd : decide ((n : Int) - p < 8) = false := by simp; omega
  have HI : Hid (gotI l p true = if chV (rdO l p) (rdA l p) (rdB l p) (rdC l p) (rdN l p) = 0 then insC (rdO l p) (rdA l p) (rdB l p) (rdC l p) (rdN l p) else insC 0 0 0 0 0) := Lib.hid (by
    unfold gotI; rw [hf]; simp)
  have HE : Hid (gotE l p true = chV (rdO l p) (rdA l p) (rdB l p) (rdC l p) (rdN l p)) := Lib.hid (by unfold gotE; rw [hf]; simp)
  have HX := Lib.hid (rdO_in l p)
  have HL := Lib.hid hn
  have HP := Lib.hid hp
  have HV := Lib.hid hv
  unfold RGot
  rw [hpp, hf, HE.out]
  obtain ⟨p1, P1⟩ : ∃ q, Hid (q = p + 1) := ⟨_, Lib.hid rfl⟩
  obtain ⟨p2, P2⟩ : ∃ q, Hid (q = p + 2) := ⟨_, Lib.hid rfl⟩
  obtain ⟨p3, P3⟩ : ∃ q, Hid (q = p + 3) := ⟨_, Lib.hid rfl⟩
  obtain ⟨p4, P4⟩ : ∃ q, Hid (q = p + 4) := ⟨_, Lib.hid rfl⟩
  obtain ⟨p5, P5⟩ : ∃ q, Hid (q = p + 8) := ⟨_, Lib.hid rfl⟩
  obtain ⟨xo, Eo⟩ : ∃ x, Hid (readV false l p true 1 = x) := ⟨_, Lib.hid rfl⟩
  obtain ⟨xa, Ea⟩ : ∃ x, Hid (readV false l p1 true 1 = x) := ⟨_, Lib.hid rfl⟩
  obtain ⟨xb, Eb⟩ : ∃ x, Hid (readV false l p2 true 1 = x) := ⟨_, Lib.hid rfl⟩
  obtain ⟨xc, Ec⟩ : ∃ x, Hid (readV false l p3 true 1 = x) := ⟨_, Lib.hid rfl⟩
  obtain ⟨xn, En⟩ : ∃ x, Hid (readV true l p4 true 4 = x) := ⟨_, Lib.hid rfl⟩
  rw [show rdO l p = xo from Eo.out, show rdA l p = xa from by rw [← Ea.out, P1.out]; rfl, show rdB l p = xb from by rw [← Eb.out, P2.out]; rfl, show rdC l p = xc from by rw [← Ec.out, P3.out]; rfl, show rdN l p = xn from by rw [← En.out, P4.out]; rfl] at HI HE ⊢
  rw [← P5.out]
  rw [show rdO l p = xo from Eo.out] at HX
  obtain ⟨ch, HCH⟩ : ∃ ch, Hid (chV xo xa xb xc xn = ch) := ⟨_, Lib.hid rfl⟩
  rw [HCH.out] at HI ⊢
  generalize gotI l p true = gi at HI ⊢
  clear hf hpp hv HE
  have hp2 : p + 8 ≤ n := by omega
  clear hp hn
  obtain ⟨W0, hW0⟩ : ∃ W, (((w.alloc (.cells #[.slice A n c, .int .i64 p, .bool false] 40)).alloc (.cells #[.slice none 0 0, .int .i64 0, .bool false] 40)).alloc (.cells (insC 0 0 0 0 0) 29)).alloc (.cells (aptC 0 0 0 0) 55) = W := ⟨_, rfl⟩
  have X2 := Lib.hid (show Blk W0 w.heap.size 40 #[.slice A n c, .int .i64 p, .bool false] by rw [← hW0]; exact (((Blk.new w _ _).alloc _).alloc _).alloc _)
  have R2 := Lib.hid (show Blk W0 (w.heap.size + 1) 40 #[.slice none 0 0, .int .i64 0, .bool false] by rw [← hW0]; exact ((Blk.at_ _ _ (by simp)).alloc _).alloc _)
  have I2 := Lib.hid (show Blk W0 (w.heap.size + 1 + 1) 29 (insC 0 0 0 0 0) by rw [← hW0]; exact (Blk.at_ _ _ (by simp)).alloc _)
  have L2 := Lib.hid (show Blk W0 (w.heap.size + 1 + 1 + 1) 55 (aptC 0 0 0 0) by rw [← hW0]; exact Blk.at_ _ _ (by simp))
  have B2 := Lib.hid (show Below w.heap.size w W0 by rw [← hW0]; exact ((((Below.refl _ _).alloc (Nat.le_refl _) _).alloc (by simp) _).alloc (by simp; omega) _).alloc (by simp; omega) _)
  have s2 : w.heap.size + 4 ≤ W0.heap.size := by rw [← hW0]; simp
  unfold insC aptC at hW0
  go_enter Tryd.func34, Tryd.ntmps34
  go_wp2_with fail
  clear hW0
  refine wp_loop_rounds 5 ?_
  rw [rounds_succ]
  have D0 := Lib.hid (rnum_there W0 w.heap.size A n c l p false 1 HL.out (by omega) (by omega) (by have := HP.out; omega) (by have := HL.out; omega) (HV.out.below B2.out))
  rw [Eo.out, show p + (1 : Int).toNat = p1 from by rw [P1.out]; rfl] at D0
  have k0 : W0.cell? ⟨w.heap.size, 0, none⟩ = some (.slice A n c) := by rw [X2.out.cell]; rfl
  have k1 : W0.cell? ⟨w.heap.size, 1, none⟩ = some (.int .i64 p) := by rw [X2.out.cell]; rfl
  have k2 : W0.cell? ⟨w.heap.size, 2, none⟩ = some (.bool false) := by rw [X2.out.cell]; rfl
  go_wp2_with fail
  refine D0.out.mono ?_
  rintro e v0 ⟨rfl, hb⟩
  have sv0 := hb.size
  have XV := Lib.hid (X2.out.below hb (by omega))
  have RV := Lib.hid (R2.out.below hb (by omega))
  have IV := Lib.hid (I2.out.below hb (by omega))
  have LV := Lib.hid (L2.out.below hb (by omega))
  have BV := Lib.hid (B2.out.trans (hb.mono (by omega)))
  clear hb k0 k1 k2 X2 R2 I2 L2 B2 D0
  have k0 : v0.cell? ⟨w.heap.size, 0, none⟩ = some (.slice A n c) := by rw [XV.out.cell]; rfl
  have k1 : v0.cell? ⟨w.heap.size, 1, none⟩ = some (.int .i64 p) := by rw [XV.out.cell]; rfl
  have k2 : v0.cell? ⟨w.heap.size, 2, none⟩ = some (.bool false) := by rw [XV.out.cell]; rfl
  have n0 : v0.frozen? ⟨w.heap.size, 0, none⟩ = false := XV.out.frozen 0
  have n1 : v0.frozen? ⟨w.heap.size, 1, none⟩ = false := XV.out.frozen 1
  have n2 : v0.frozen? ⟨w.heap.size, 2, none⟩ = false := XV.out.frozen 2
  have y0 : v0.cell? ⟨w.heap.size + 1 + 1 + 1, 0, none⟩ = some (.int .i64 0) := by rw [LV.out.cell]; rfl
  have y1 : v0.frozen? ⟨w.heap.size + 1 + 1 + 1, 0, none⟩ = false := LV.out.frozen 0
  have l1 : w.heap.size < v0.heap.size := by omega
  have l2 : w.heap.size + 1 + 1 + 1 < v0.heap.size := by omega
  go_wp2_with fail
  generalize hu0 : ((((v0.setCell ⟨w.heap.size, 0, none⟩ (.slice A n c)).setCell ⟨w.heap.size, 1, none⟩ (.int .i64 p1)).setCell ⟨w.heap.size, 2, none⟩ (.bool false)).setCell ⟨w.heap.size + 1 + 1 + 1, 0, none⟩ (.int .i64 xo)).alloc (.cells #[.slice A n c, .int .i64 p1, .bool false] 40) = u0
  have X3 := Lib.hid (show Blk u0 w.heap.size 40 #[.slice A n c, .int .i64 p1, .bool false] by rw [← hu0]; exact ((XV.out.three _ _ _).other (by omega) _ _).alloc _)
  have R3 := Lib.hid (show Blk u0 (w.heap.size + 1) 40 #[.slice none 0 0, .int .i64 0, .bool false] by rw [← hu0]; exact ((((RV.out.other (by omega) _ _).other (by omega) _ _).other (by omega) _ _).other (by omega) _ _).alloc _)
  have I3 := Lib.hid (show Blk u0 (w.heap.size + 1 + 1) 29 (insC 0 0 0 0 0) by rw [← hu0]; exact ((((IV.out.other (by omega) _ _).other (by omega) _ _).other (by omega) _ _).other (by omega) _ _).alloc _)
  have L3 := Lib.hid (show Blk u0 (w.heap.size + 1 + 1 + 1) 55 (aptC xo 0 0 0) by rw [← hu0]; exact ((((LV.out.other (by omega) _ _).other (by omega) _ _).other (by omega) _ _).stored 0 _).alloc _)
  have B3 := Lib.hid (show Below w.heap.size w u0 by rw [← hu0]; exact ((((BV.out.setCell (Nat.le_refl _) _).setCell (Nat.le_refl _) _).setCell (Nat.le_refl _) _).setCell (by show w.heap.size ≤ w.heap.size + 1 + 1 + 1; omega) _).alloc (by simp [World.setCell]; omega) _)
  have s3 : w.heap.size + 4 ≤ u0.heap.size := by rw [← hu0]; simp [World.setCell]; omega
  clear hu0 XV RV IV LV BV k0 k1 k2 n0 n1 n2 y0 y1 l1 l2 sv0
  rw [rounds_succ]
  have D1 := Lib.hid (rnum_there u0 w.heap.size A n c l p1 false 1 HL.out (by omega) (by omega) (by have := HP.out; have := P1.out; omega) (by have := HL.out; omega) (HV.out.below B3.out))
  rw [Ea.out, show p1 + (1 : Int).toNat = p2 from by rw [P1.out, P2.out]; rfl] at D1
  have k0 : u0.cell? ⟨w.heap.size, 0, none⟩ = some (.slice A n c) := by rw [X3.out.cell]; rfl
  have k1 : u0.cell? ⟨w.heap.size, 1, none⟩ = some (.int .i64 p1) := by rw [X3.out.cell]; rfl
  have k2 : u0.cell? ⟨w.heap.size, 2, none⟩ = some (.bool false) := by rw [X3.out.cell]; rfl
  go_wp2_with fail
  refine D1.out.mono ?_
  rintro e v1 ⟨rfl, hb⟩
  have sv1 := hb.size
  have XV := Lib.hid (X3.out.below hb (by omega))
  have RV := Lib.hid (R3.out.below hb (by omega))
  have IV := Lib.hid (I3.out.below hb (by omega))
  have LV := Lib.hid (L3.out.below hb (by omega))
  have BV := Lib.hid (B3.out.trans (hb.mono (by omega)))
  clear hb k0 k1 k2 X3 R3 I3 L3 B3 D1
  have k0 : v1.cell? ⟨w.heap.size, 0, none⟩ = some (.slice A n c) := by rw [XV.out.cell]; rfl
  have k1 : v1.cell? ⟨w.heap.size, 1, none⟩ = some (.int .i64 p1) := by rw [XV.out.cell]; rfl
  have k2 : v1.cell? ⟨w.heap.size, 2, none⟩ = some (.bool false) := by rw [XV.out.cell]; rfl
  have n0 : v1.frozen? ⟨w.heap.size, 0, none⟩ = false := XV.out.frozen 0
  have n1 : v1.frozen? ⟨w.heap.size, 1, none⟩ = false := XV.out.frozen 1
  have n2 : v1.frozen? ⟨w.heap.size, 2, none⟩ = false := XV.out.frozen 2
  have y0 : v1.cell? ⟨w.heap.size + 1 + 1 + 1, 1, none⟩ = some (.int .i64 0) := by rw [LV.out.cell]; rfl
  have y1 : v1.frozen? ⟨w.heap.size + 1 + 1 + 1, 1, none⟩ = false := LV.out.frozen 1
  have l1 : w.heap.size < v1.heap.size := by omega
  have l2 : w.heap.size + 1 + 1 + 1 < v1.heap.size := by omega
  go_wp2_with fail
  generalize hu1 : ((((v1.setCell ⟨w.heap.size, 0, none⟩ (.slice A n c)).setCell ⟨w.heap.size, 1, none⟩ (.int .i64 p2)).setCell ⟨w.heap.size, 2, none⟩ (.bool false)).setCell ⟨w.heap.size + 1 + 1 + 1, 1, none⟩ (.int .i64 xa)).alloc (.cells #[.slice A n c, .int .i64 p2, .bool false] 40) = u1
  have X4 := Lib.hid (show Blk u1 w.heap.size 40 #[.slice A n c, .int .i64 p2, .bool false] by rw [← hu1]; exact ((XV.out.three _ _ _).other (by omega) _ _).alloc _)
  have R4 := Lib.hid (show Blk u1 (w.heap.size + 1) 40 #[.slice none 0 0, .int .i64 0, .bool false] by rw [← hu1]; exact ((((RV.out.other (by omega) _ _).other (by omega) _ _).other (by omega) _ _).other (by omega) _ _).alloc _)
  have I4 := Lib.hid (show Blk u1 (w.heap.size + 1 + 1) 29 (insC 0 0 0 0 0) by rw [← hu1]; exact ((((IV.out.other (by omega) _ _).other (by omega) _ _).other (by omega) _ _).other (by omega) _ _).alloc _)
  have L4 := Lib.hid (show Blk u1 (w.heap.size + 1 + 1 + 1) 55 (aptC xo xa 0 0) by rw [← hu1]; exact ((((LV.out.other (by omega) _ _).other (by omega) _ _).other (by omega) _ _).stored 1 _).alloc _)
  have B4 := Lib.hid (show Below w.heap.size w u1 by rw [← hu1]; exact ((((BV.out.setCell (Nat.le_refl _) _).setCell (Nat.le_refl _) _).setCell (Nat.le_refl _) _).setCell (by show w.heap.size ≤ w.heap.size + 1 + 1 + 1; omega) _).alloc (by simp [World.setCell]; omega) _)
  have s4 : w.heap.size + 4 ≤ u1.heap.size := by rw [← hu1]; simp [World.setCell]; omega
  clear hu1 XV RV IV LV BV k0 k1 k2 n0 n1 n2 y0 y1 l1 l2 sv1
  rw [rounds_succ]
  have D2 := Lib.hid (rnum_there u1 w.heap.size A n c l p2 false 1 HL.out (by omega) (by omega) (by have := HP.out; have := P2.out; omega) (by have := HL.out; omega) (HV.out.below B4.out))
  rw [Eb.out, show p2 + (1 : Int).toNat = p3 from by rw [P2.out, P3.out]; rfl] at D2
  have k0 : u1.cell? ⟨w.heap.size, 0, none⟩ = some (.slice A n c) := by rw [X4.out.cell]; rfl
  have k1 : u1.cell? ⟨w.heap.size, 1, none⟩ = some (.int .i64 p2) := by rw [X4.out.cell]; rfl
  have k2 : u1.cell? ⟨w.heap.size, 2, none⟩ = some (.bool false) := by rw [X4.out.cell]; rfl
  go_wp2_with fail
  refine D2.out.mono ?_
  rintro e v2 ⟨rfl, hb⟩
  have sv2 := hb.size
  have XV := Lib.hid (X4.out.below hb (by omega))
  have RV := Lib.hid (R4.out.below hb (by omega))
  have IV := Lib.hid (I4.out.below hb (by omega))
  have LV := Lib.hid (L4.out.below hb (by omega))
  have BV := Lib.hid (B4.out.trans (hb.mono (by omega)))
  clear hb k0 k1 k2 X4 R4 I4 L4 B4 D2
  have k0 : v2.cell? ⟨w.heap.size, 0, none⟩ = some (.slice A n c) := by rw [XV.out.cell]; rfl
  have k1 : v2.cell? ⟨w.heap.size, 1, none⟩ = some (.int .i64 p2) := by rw [XV.out.cell]; rfl
  have k2 : v2.cell? ⟨w.heap.size, 2, none⟩ = some (.bool false) := by rw [XV.out.cell]; rfl
  have n0 : v2.frozen? ⟨w.heap.size, 0, none⟩ = false := XV.out.frozen 0
  have n1 : v2.frozen? ⟨w.heap.size, 1, none⟩ = false := XV.out.frozen 1
  have n2 : v2.frozen? ⟨w.heap.size, 2, none⟩ = false := XV.out.frozen 2
  have y0 : v2.cell? ⟨w.heap.size + 1 + 1 + 1, 2, none⟩ = some (.int .i64 0) := by rw [LV.out.cell]; rfl
  have y1 : v2.frozen? ⟨w.heap.size + 1 + 1 + 1, 2, none⟩ = false := LV.out.frozen 2
  have l1 : w.heap.size < v2.heap.size := by omega
  have l2 : w.heap.size + 1 + 1 + 1 < v2.heap.size := by omega
  go_wp2_with fail
  generalize hu2 : ((((v2.setCell ⟨w.heap.size, 0, none⟩ (.slice A n c)).setCell ⟨w.heap.size, 1, none⟩ (.int .i64 p3)).setCell ⟨w.heap.size, 2, none⟩ (.bool false)).setCell ⟨w.heap.size + 1 + 1 + 1, 2, none⟩ (.int .i64 xb)).alloc (.cells #[.slice A n c, .int .i64 p3, .bool false] 40) = u2
  have X5 := Lib.hid (show Blk u2 w.heap.size 40 #[.slice A n c, .int .i64 p3, .bool false] by rw [← hu2]; exact ((XV.out.three _ _ _).other (by omega) _ _).alloc _)
  have R5 := Lib.hid (show Blk u2 (w.heap.size + 1) 40 #[.slice none 0 0, .int .i64 0, .bool false] by rw [← hu2]; exact ((((RV.out.other (by omega) _ _).other (by omega) _ _).other (by omega) _ _).other (by omega) _ _).alloc _)
  have I5 := Lib.hid (show Blk u2 (w.heap.size + 1 + 1) 29 (insC 0 0 0 0 0) by rw [← hu2]; exact ((((IV.out.other (by omega) _ _).other (by omega) _ _).other (by omega) _ _).other (by omega) _ _).alloc _)
  have L5 := Lib.hid (show Blk u2 (w.heap.size + 1 + 1 + 1) 55 (aptC xo xa xb 0) by rw [← hu2]; exact ((((LV.out.other (by omega) _ _).other (by omega) _ _).other (by omega) _ _).stored 2 _).alloc _)
  have B5 := Lib.hid (show Below w.heap.size w u2 by rw [← hu2]; exact ((((BV.out.setCell (Nat.le_refl _) _).setCell (Nat.le_refl _) _).setCell (Nat.le_refl _) _).setCell (by show w.heap.size ≤ w.heap.size + 1 + 1 + 1; omega) _).alloc (by simp [World.setCell]; omega) _)
  have s5 : w.heap.size + 4 ≤ u2.heap.size := by rw [← hu2]; simp [World.setCell]; omega
  clear hu2 XV RV IV LV BV k0 k1 k2 n0 n1 n2 y0 y1 l1 l2 sv2
  rw [rounds_succ]
  have D3 := Lib.hid (rnum_there u2 w.heap.size A n c l p3 false 1 HL.out (by omega) (by omega) (by have := HP.out; have := P3.out; omega) (by have := HL.out; omega) (HV.out.below B5.out))
  rw [Ec.out, show p3 + (1 : Int).toNat = p4 from by rw [P3.out, P4.out]; rfl] at D3
  have k0 : u2.cell? ⟨w.heap.size, 0, none⟩ = some (.slice A n c) := by rw [X5.out.cell]; rfl
  have k1 : u2.cell? ⟨w.heap.size, 1, none⟩ = some (.int .i64 p3) := by rw [X5.out.cell]; rfl
  have k2 : u2.cell? ⟨w.heap.size, 2, none⟩ = some (.bool false) := by rw [X5.out.cell]; rfl
  go_wp2_with fail
  refine D3.out.mono ?_
  rintro e v3 ⟨rfl, hb⟩
  have sv3 := hb.size
  have XV := Lib.hid (X5.out.below hb (by omega))
  have RV := Lib.hid (R5.out.below hb (by omega))
  have IV := Lib.hid (I5.out.below hb (by omega))
  have LV := Lib.hid (L5.out.below hb (by omega))
  have BV := Lib.hid (B5.out.trans (hb.mono (by omega)))
  clear hb k0 k1 k2 X5 R5 I5 L5 B5 D3
  have k0 : v3.cell? ⟨w.heap.size, 0, none⟩ = some (.slice A n c) := by rw [XV.out.cell]; rfl
  have k1 : v3.cell? ⟨w.heap.size, 1, none⟩ = some (.int .i64 p3) := by rw [XV.out.cell]; rfl
  have k2 : v3.cell? ⟨w.heap.size, 2, none⟩ = some (.bool false) := by rw [XV.out.cell]; rfl
  have n0 : v3.frozen? ⟨w.heap.size, 0, none⟩ = false := XV.out.frozen 0
  have n1 : v3.frozen? ⟨w.heap.size, 1, none⟩ = false := XV.out.frozen 1
  have n2 : v3.frozen? ⟨w.heap.size, 2, none⟩ = false := XV.out.frozen 2
  have y0 : v3.cell? ⟨w.heap.size + 1 + 1 + 1, 3, none⟩ = some (.int .i64 0) := by rw [LV.out.cell]; rfl
  have y1 : v3.frozen? ⟨w.heap.size + 1 + 1 + 1, 3, none⟩ = false := LV.out.frozen 3
  have l1 : w.heap.size < v3.heap.size := by omega
  have l2 : w.heap.size + 1 + 1 + 1 < v3.heap.size := by omega
  go_wp2_with fail
  generalize hu3 : ((((v3.setCell ⟨w.heap.size, 0, none⟩ (.slice A n c)).setCell ⟨w.heap.size, 1, none⟩ (.int .i64 p4)).setCell ⟨w.heap.size, 2, none⟩ (.bool false)).setCell ⟨w.heap.size + 1 + 1 + 1, 3, none⟩ (.int .i64 xc)).alloc (.cells #[.slice A n c, .int .i64 p4, .bool false] 40) = u3
  have X6 := Lib.hid (show Blk u3 w.heap.size 40 #[.slice A n c, .int .i64 p4, .bool false] by rw [← hu3]; exact ((XV.out.three _ _ _).other (by omega) _ _).alloc _)
  have R6 := Lib.hid (show Blk u3 (w.heap.size + 1) 40 #[.slice none 0 0, .int .i64 0, .bool false] by rw [← hu3]; exact ((((RV.out.other (by omega) _ _).other (by omega) _ _).other (by omega) _ _).other (by omega) _ _).alloc _)
  have I6 := Lib.hid (show Blk u3 (w.heap.size + 1 + 1) 29 (insC 0 0 0 0 0) by rw [← hu3]; exact ((((IV.out.other (by omega) _ _).other (by omega) _ _).other (by omega) _ _).other (by omega) _ _).alloc _)
  have L6 := Lib.hid (show Blk u3 (w.heap.size + 1 + 1 + 1) 55 (aptC xo xa xb xc) by rw [← hu3]; exact ((((LV.out.other (by omega) _ _).other (by omega) _ _).other (by omega) _ _).stored 3 _).alloc _)
  have B6 := Lib.hid (show Below w.heap.size w u3 by rw [← hu3]; exact ((((BV.out.setCell (Nat.le_refl _) _).setCell (Nat.le_refl _) _).setCell (Nat.le_refl _) _).setCell (by show w.heap.size ≤ w.heap.size + 1 + 1 + 1; omega) _).alloc (by simp [World.setCell]; omega) _)
  have s6 : w.heap.size + 4 ≤ u3.heap.size := by rw [← hu3]; simp [World.setCell]; omega
  clear hu3 XV RV IV LV BV k0 k1 k2 n0 n1 n2 y0 y1 l1 l2 sv3
  rw [rounds_succ]
  have D4 := Lib.hid (rnum_there u3 w.heap.size A n c l p4 true 4 HL.out (by omega) (by omega) (by have := HP.out; have := P4.out; omega) (by have := HL.out; omega) (HV.out.below B6.out))
  rw [En.out, show p4 + (4 : Int).toNat = p5 from by rw [P4.out, P5.out]; rfl] at D4
  have k0 : u3.cell? ⟨w.heap.size, 0, none⟩ = some (.slice A n c) := by rw [X6.out.cell]; rfl
  have k1 : u3.cell? ⟨w.heap.size, 1, none⟩ = some (.int .i64 p4) := by rw [X6.out.cell]; rfl
  have k2 : u3.cell? ⟨w.heap.size, 2, none⟩ = some (.bool false) := by rw [X6.out.cell]; rfl
  go_wp2_with fail
  refine D4.out.mono ?_
  rintro e v4 ⟨rfl, hb⟩
  have sv4 := hb.size
  have RV := Lib.hid (R6.out.below hb (by omega))
  have IV := Lib.hid (I6.out.below hb (by omega))
  have LV := Lib.hid (L6.out.below hb (by omega))
  have BV := Lib.hid (B6.out.trans (hb.mono (by omega)))
  clear hb k0 k1 k2 X6 R6 I6 L6 B6 D4
  have y0 : v4.cell? ⟨w.heap.size + 1 + 1 + 1, 0, none⟩ = some (.int .i64 xo) := by rw [LV.out.cell]; rfl
  have y1 : v4.cell? ⟨w.heap.size + 1 + 1 + 1, 1, none⟩ = some (.int .i64 xa) := by rw [LV.out.cell]; rfl
  have y2 : v4.cell? ⟨w.heap.size + 1 + 1 + 1, 2, none⟩ = some (.int .i64 xb) := by rw [LV.out.cell]; rfl
  have y3 : v4.cell? ⟨w.heap.size + 1 + 1 + 1, 3, none⟩ = some (.int .i64 xc) := by rw [LV.out.cell]; rfl
  have l2 : w.heap.size + 1 + 1 + 1 < v4.heap.size := by omega
  have HCK := Lib.hid (fun w => rcheck_any xo xa xb xc xn w (by have := HX.out; omega) (by have := HX.out; omega))
  rw [HCH.out] at HCK
  go_wp2_with fail
  refine (HCK.out _).mono ?_
  rintro e v5 ⟨rfl, hb⟩
  have sv5 : v4.heap.size + 1 + 1 ≤ v5.heap.size := by simpa using hb.size
  have YY := (Blk.new v4 40 #[.slice A n c, .int .i64 p5, .bool false]).alloc (.cells (insC xo xa xb xc xn) 29) |>.below hb (by simp; omega)
  have YI := (Blk.at_ (w := v4.alloc (.cells #[.slice A n c, .int .i64 p5, .bool false] 40)) 29 (insC xo xa xb xc xn) (by simp) : Blk _ (v4.heap.size + 1) _ _) |>.below hb (by simp)
  have RZ := ((RV.out.alloc _).alloc _).below hb (by simp; omega)
  have IZ := ((IV.out.alloc _).alloc _).below hb (by simp; omega)
  have BZ := Lib.hid (((BV.out.alloc (by omega) _).alloc (by simp; omega) _).trans (hb.mono (by simp; omega)))
  have b0 : v5.cell? ⟨v4.heap.size, 0, none⟩ = some (.slice A n c) := by rw [YY.cell]; rfl
  have b1 : v5.cell? ⟨v4.heap.size, 1, none⟩ = some (.int .i64 p5) := by rw [YY.cell]; rfl
  have b2 : v5.cell? ⟨v4.heap.size, 2, none⟩ = some (.bool false) := by rw [YY.cell]; rfl
  have c0 : v5.cell? ⟨v4.heap.size + 1, 0, none⟩ = some (.int .i64 xo) := by rw [YI.cell]; rfl
  have c1 : v5.cell? ⟨v4.heap.size + 1, 1, none⟩ = some (.int .i64 xa) := by rw [YI.cell]; rfl
  have c2 : v5.cell? ⟨v4.heap.size + 1, 2, none⟩ = some (.int .i64 xb) := by rw [YI.cell]; rfl
  have c3 : v5.cell? ⟨v4.heap.size + 1, 3, none⟩ = some (.int .i64 xc) := by rw [YI.cell]; rfl
  have c4 : v5.cell? ⟨v4.heap.size + 1, 4, none⟩ = some (.int .i64 xn) := by rw [YI.cell]; rfl
  have r0 : v5.cell? ⟨w.heap.size + 1, 0, none⟩ = some (.slice none 0 0) := by rw [RZ.cell]; rfl
  have r1 : v5.cell? ⟨w.heap.size + 1, 1, none⟩ = some (.int .i64 0) := by rw [RZ.cell]; rfl
  have r2 : v5.cell? ⟨w.heap.size + 1, 2, none⟩ = some (.bool false) := by rw [RZ.cell]; rfl
  have i0 : v5.cell? ⟨w.heap.size + 1 + 1, 0, none⟩ = some (.int .i64 0) := by rw [IZ.cell]; rfl
  have i1 : v5.cell? ⟨w.heap.size + 1 + 1, 1, none⟩ = some (.int .i64 0) := by rw [IZ.cell]; rfl
  have i2 : v5.cell? ⟨w.heap.size + 1 + 1, 2, none⟩ = some (.int .i64 0) := by rw [IZ.cell]; rfl
  have i3 : v5.cell? ⟨w.heap.size + 1 + 1, 3, none⟩ = some (.int .i64 0) := by rw [IZ.cell]; rfl
  have i4 : v5.cell? ⟨w.heap.size + 1 + 1, 4, none⟩ = some (.int .i64 0) := by rw [IZ.cell]; rfl
  have rf0 : v5.frozen? ⟨w.heap.size + 1, 0, none⟩ = false := RZ.frozen 0
  have rf1 : v5.frozen? ⟨w.heap.size + 1, 1, none⟩ = false := RZ.frozen 1
  have rf2 : v5.frozen? ⟨w.heap.size + 1, 2, none⟩ = false := RZ.frozen 2
  have if0 : v5.frozen? ⟨w.heap.size + 1 + 1, 0, none⟩ = false := IZ.frozen 0
  have if1 : v5.frozen? ⟨w.heap.size + 1 + 1, 1, none⟩ = false := IZ.frozen 1
  have if2 : v5.frozen? ⟨w.heap.size + 1 + 1, 2, none⟩ = false := IZ.frozen 2
  have if3 : v5.frozen? ⟨w.heap.size + 1 + 1, 3, none⟩ = false := IZ.frozen 3
  have if4 : v5.frozen? ⟨w.heap.size + 1 + 1, 4, none⟩ = false := IZ.frozen 4
  obtain ⟨gq, hgq⟩ : ∃ q, q = v4.heap.size := ⟨_, rfl⟩
  rw [← hgq] at b0 b1 b2 c0 c1 c2 c3 c4 ⊢
  have l1 : w.heap.size + 1 + 1 < gq := by omega
  have l3 : gq + 1 < v5.heap.size := by omega
  have l4 : ¬ gq = w.heap.size + 1 := by omega
  have l5 : ¬ gq = w.heap.size + 1 + 1 := by omega
  have l6 : ¬ gq + 1 = w.heap.size + 1 := by omega
  have l7 : ¬ gq + 1 = w.heap.size + 1 + 1 := by omega
  clear hb YY YI RZ IZ RV IV LV BV y0 y1 y2 y3 l2 hgq
  by_cases hz : ch = 0
  · rw [if_pos hz] at HI
    subst hz
    go_wp2_with fail
    go_region
    all_goals
      go_wp2_with fail
      refine bodyPost_ret (v := .tuple #[.agg #[.slice A n c, .int .i64 p5, .bool false], .agg (insC xo xa xb xc xn), .int .i64 0]) ?_ rfl ⟨by rw [HI.out]; rfl, ?_⟩
      · simp [insC, results, Tryd.results34, go_sem, r0, r1, r2, i0, i1, i2, i3, i4]
      · have hB := BZ.out
        go_grown
  · rw [if_neg hz] at HI
    have hz2 : (ch == 0) = false := by simpa using hz
    have hz3 : (ch != 0) = true := by simpa using hz
    clear hz
    go_wp2_with fail
    refine bodyPost_ret (v := .tuple #[.agg #[.slice A n c, .int .i64 p5, .bool false], .agg (insC 0 0 0 0 0), .int .i64 ch]) ?_ rfl ⟨by rw [HI.out]; rfl, ?_⟩
    · simp [insC, results, Tryd.results34, go_sem, r0, r1, r2, i0, i1, i2, i3, i4]
    · have hB := BZ.out
      go_grown

end Go.Proofs.YtieacapdfeljfaaDoor.By
