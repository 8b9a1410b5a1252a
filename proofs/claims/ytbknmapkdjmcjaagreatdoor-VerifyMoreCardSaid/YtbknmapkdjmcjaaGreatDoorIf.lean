/-
  WALK of layer 8: Put.
-/
import Derived.Test.YtbknmapkdjmcjaaGreatDoorIc
import Derived.Deep.RegionHeld3
namespace Go.Proofs.YtbknmapkdjmcjaaGreatDoor.By
open Go.ChangeShapes Go.WideShapes Go.ChangeAt Go.RowKit
open Mem

/-- The bytes of the operation and of the first k operands. -/
def pfxB (o a b c n : Int) : Nat → List UInt8
  | 0 => putB o 1
  | k + 1 => pfxB o a b c n k ++ putB (opdV a b c n k) (widV k)

/-- An instruction's bytes. -/
def insB (o a b c n : Int) : List UInt8 := pfxB o a b c n 4

theorem pfx_length (o a b c n : Int) (k : Nat) : (pfxB o a b c n k).length ≤ 8 * (k + 1) := by
  induction k with
  | zero => exact putB_length o 1
  | succ k ih =>
    have := putB_length (opdV a b c n k) (widV k)
    simp only [pfxB, List.length_append]
    omega

theorem concat_pair (w : World) (A A2 : Option Addr) (c c2 : Nat) (l l2 : List UInt8) (h : SlV w w.heap.size (.slice A (u8s l).length c) (u8s l)) (h2 : SlV w w.heap.size (.slice A2 (u8s l2).length c2) (u8s l2)) (hl : l.length + l2.length ≤ 1099511627776) :
    Calls Tryz.prog 68 #[.slice (some ⟨w.heap.size, 0, none⟩) 2 2] (w.alloc (.cells #[.slice A (u8s l).length c, .slice A2 (u8s l2).length c2] 35)) (Owns w (u8s (l ++ l2))) := by
  have hb := Blk.new w 35 #[.slice A (u8s l).length c, .slice A2 (u8s l2).length c2]
  have hB := (Below.refl w.heap.size w).alloc (Nat.le_refl _) (.cells #[.slice A (u8s l).length c, .slice A2 (u8s l2).length c2] 35)
  have hc := concat_any w.heap.size w.heap.size [(A, c, u8s l), (A2, c2, u8s l2)] (w.alloc (.cells #[.slice A (u8s l).length c, .slice A2 (u8s l2).length c2] 35)) (fun k hk => by
      have : k = 0 ∨ k = 1 := by simp at hk; omega
      rcases this with rfl | rfl <;> · rw [hb.cell]; rfl) (by simp)
    (fun p hp => by
      rcases List.mem_cons.1 hp with rfl | hp
      · exact h.below hB
      · rcases List.mem_cons.1 hp with rfl | hp
        · exact h2.below hB
        · cases hp)
    (fun p hp => by
      rcases List.mem_cons.1 hp with rfl | hp
      · exact u8s_one _
      · rcases List.mem_cons.1 hp with rfl | hp
        · exact u8s_one _
        · cases hp)
    (by simp [flat, u8s_length]; omega) (by simp)
  refine (hc.mono fun e w' ho => ?_)
  have e2 : flat [(A, c, u8s l), (A2, c2, u8s l2)] 2 = u8s (l ++ l2) := by simp [flat, u8s_append]
  rw [show [(A, c, u8s l), (A2, c2, u8s l2)].length = 2 from rfl, e2] at ho
  exact ho.back hB

set_option maxHeartbeats 4000000 in
theorem iput_any (v : Value) (l : List UInt8) (o a b c n : Int) (w : World) (h : SlV w w.heap.size v (u8s l)) (hl : l.length ≤ 1099511627) :
    Calls Tryz.prog 151 #[v, .agg #[.int .i64 o, .int .i64 a, .int .i64 b, .int .i64 c, .int .i64 n]] w (Owns w (u8s (l ++ insB o a b c n))) := by
  have HV := Lib.hid h
  have HP := Lib.hid (fun w => put_any (.slice none 0 0) [] o 1 w .nil (by simp) (by simp))
  have B0 := Lib.hid ((Below.refl w.heap.size w).alloc (Nat.le_refl _) (.cells (insC o a b c n) 94))
  have H0 := Lib.hid (Blk.at_ (w := w) 94 (insC o a b c n) rfl)
  clear h
  go_enter Tryz.func151, Tryz.ntmps151
  go_wp2_with fail
  refine (HP.out _).mono ?_
  rintro e w1 ⟨v1, rfl, hown1, hb1⟩
  have hs1 : w.heap.size + 1 ≤ w1.heap.size := by simpa using hb1.size
  have V1 := Lib.hid (SlV.of_own hown1)
  have K1 := Lib.hid (B0.out.trans (hb1.mono (by simp)))
  have L1 := Lib.hid (H0.out.below hb1 (by simp))
  have k0 : w1.cell? ⟨w.heap.size, 0, none⟩ = some (.int .i64 o) := by rw [L1.out.cell]; rfl
  have k1 : w1.cell? ⟨w.heap.size, 1, none⟩ = some (.int .i64 a) := by rw [L1.out.cell]; rfl
  have k2 : w1.cell? ⟨w.heap.size, 2, none⟩ = some (.int .i64 b) := by rw [L1.out.cell]; rfl
  have k3 : w1.cell? ⟨w.heap.size, 3, none⟩ = some (.int .i64 c) := by rw [L1.out.cell]; rfl
  have k4 : w1.cell? ⟨w.heap.size, 4, none⟩ = some (.int .i64 n) := by rw [L1.out.cell]; rfl
  have l0 : w.heap.size < w1.heap.size := by omega
  clear hown1 hb1 H0 B0 HP
  go_wp2_with fail
  refine (apart_any o a b c n _).mono ?_
  rintro e w2 ⟨rfl, hb2⟩
  have hs2 : w1.heap.size ≤ w2.heap.size := hb2.size
  have V2 := Lib.hid ((V1.out.below hb2).more hs2)
  have K2 := Lib.hid (K1.out.trans (hb2.mono (by omega)))
  clear hb2 k0 k1 k2 k3 k4 l0 L1 K1 V1
  go_wp2_with fail
  refine (forms_any _).mono ?_
  rintro e w3 ⟨rfl, hb3⟩
  have hs3 : w2.heap.size + 1 ≤ w3.heap.size := by simpa using hb3.size
  have L3 := Lib.hid ((Blk.at_ 181 (aptC a b c n) rfl).below hb3 (by simp))
  have K3 := Lib.hid (K2.out.trans (((Below.refl w2.heap.size w2).alloc (Nat.le_refl _) _).trans (hb3.mono (by simp)) |>.mono (by omega)))
  have V3 := Lib.hid ((V2.out.below (((Below.refl w2.heap.size w2).alloc (Nat.le_refl _) _).trans (hb3.mono (by simp)))).more (show w2.heap.size ≤ w3.heap.size by omega))
  clear hb3 K2 V2
  generalize w2.heap.size = g6 at hs2 hs3 L3 ⊢
  go_wp2_with fail
  go_loopw [5, 15] (fun v i wr => ∃ k : Nat, k ≤ 4 ∧ i = .int .i64 k ∧ Hid (SlV wr wr.heap.size v (u8s (pfxB o a b c n k))) ∧ Hid (Below w3.heap.size w3 wr)) (fun _ i _ => 4 - (intOf i).toNat)
  case atStart => exact ⟨0, by omega, rfl, V3, Lib.hid (Below.refl _ _)⟩
  case round =>
    clear V3
    obtain ⟨k, hk, rfl, HW, HB⟩ := hrel
    have hsr := HB.out.size
    obtain ⟨wz, hwz⟩ : ∃ wz, wz = wr := ⟨_, rfl⟩
    subst hwz
    by_cases hlt : k < 4
    · have hd : decide ((k : Int) < 4) = true := by simp; omega
      have hI := idf k hlt
      have hc : wz.cell? ⟨g6, k, none⟩ = some (.int .i64 (opdV a b c n k)) := by
        rw [(L3.out.below HB.out (by omega)).cell, apt_at a b c n k hlt]
      have lg : g6 < wz.heap.size := by omega
      have hm : IntKind.i64.wrap ((k : Int) + 1) = (k : Int) + 1 := IntWalk.i64_in _ (by omega)
      have hlen := pfx_length o a b c n k
      have HPU := Lib.hid (fun (w : World) h => put_any u5 (u8s (pfxB o a b c n k)) (opdV a b c n k) (widV k) w h (u8s_one _) (by rw [u8s_length]; omega))
      have hpe : u8s (pfxB o a b c n k) ++ u8s (putB (opdV a b c n k) (widV k)) = u8s (pfxB o a b c n (k + 1)) := by rw [← u8s_append]; rfl
      rw [hpe] at HPU
      generalize opdV a b c n k = x at hc HPU
      generalize lstV k = y at hI
      generalize mstV k = z at hI
      generalize widV k = u at hI HPU
      generalize rdF k = r at hI
      obtain ⟨l2, hl2⟩ : ∃ l2, l2 = pfxB o a b c n (k + 1) := ⟨_, rfl⟩
      rw [← hl2] at HPU
      have HL2 := Lib.hid hl2
      clear hl2
      have hk0 : (0 : Int) ≤ (k : Int) := by omega
      have hk4 : (k : Int) < 4 := by omega
      clear hlen hpe hk
      go_wp2_with fail
      have m2 : (wz.alloc (.cells #[.int .i64 y, .int .i64 z, .int .i64 u, .func (.func r) #[] #[]] 229)).cell? ⟨wz.heap.size, 2, none⟩ = some (.int .i64 u) := by
        rw [(Blk.new wz 229 #[.int .i64 y, .int .i64 z, .int .i64 u, .func (.func r) #[] #[]]).cell]; rfl
      have hc2 : (wz.alloc (.cells #[.int .i64 y, .int .i64 z, .int .i64 u, .func (.func r) #[] #[]] 229)).cell? ⟨g6, k, none⟩ = some (.int .i64 x) :=
        (World.cell?_alloc_lt _ _ _ lg).trans hc
      have HW2 := Lib.hid ((HW.out.below ((Below.refl wz.heap.size wz).alloc (Nat.le_refl _) (.cells #[.int .i64 y, .int .i64 z, .int .i64 u, .func (.func r) #[] #[]] 229))).more (Nat.le_succ _))
      have HB2 := Lib.hid (HB.out.alloc hsr (.cells #[.int .i64 y, .int .i64 z, .int .i64 u, .func (.func r) #[] #[]] 229))
      have hsz : w3.heap.size ≤ (wz.alloc (.cells #[.int .i64 y, .int .i64 z, .int .i64 u, .func (.func r) #[] #[]] 229)).heap.size := by simp; omega
      have hgs : g6 < (wz.alloc (.cells #[.int .i64 y, .int .i64 z, .int .i64 u, .func (.func r) #[] #[]] 229)).heap.size := by simp; omega
      have hzs : wz.heap.size < (wz.alloc (.cells #[.int .i64 y, .int .i64 z, .int .i64 u, .func (.func r) #[] #[]] 229)).heap.size := by simp
      have HW3 : Hid (SlV (wz.alloc (.cells #[.int .i64 y, .int .i64 z, .int .i64 u, .func (.func r) #[] #[]] 229)) (wz.alloc (.cells #[.int .i64 y, .int .i64 z, .int .i64 u, .func (.func r) #[] #[]] 229)).heap.size u5 (u8s (pfxB o a b c n k))) := Lib.hid (by simpa using HW2.out)
      clear HW HW2
      obtain ⟨q8, hq8⟩ : ∃ q, q = wz.heap.size := ⟨_, rfl⟩
      rw [← hq8] at m2 hzs ⊢
      generalize (wz.alloc (.cells #[.int .i64 y, .int .i64 z, .int .i64 u, .func (.func r) #[] #[]] 229)) = wy at m2 hc2 HW3 HB2 hsz hgs hzs ⊢
      clear hc lg hsr hq8 HB hI
      go_region_held3 (fun w' => w'.cell? ⟨g6, k, none⟩ = some (.int .i64 x) ∧ w'.cell? ⟨q8, 2, none⟩ = some (.int .i64 u)) (first | go_keep | assumption)
        (first | (go_at_call 150; refine (HPU.out _ (by first | exact HW3.out | exact HW3.out.below (Below.refl _ _).drew)).mono ?_; rintro e w4 ⟨v4, rfl, hown4, hb4⟩; have d1 : w4.cell? ⟨g6, k, none⟩ = some (.int .i64 x) := (hb4.cell (p := ⟨g6, k, none⟩) hgs).trans hc2; have d2 : w4.cell? ⟨q8, 2, none⟩ = some (.int .i64 u) := (hb4.cell (p := ⟨q8, 2, none⟩) hzs).trans m2))
      have HB4 := Lib.hid (HB2.out.drew.trans (hb4.mono hsz))
      have HV4 := Lib.hid (SlV.of_own hown4)
      clear hb4 hown4 d1 d2 m2 hc2
      go_wp2_with fail
      go_roundw
      case rel => exact ⟨k + 1, by omega, by go_num, Lib.hid (by rw [← HL2.out]; exact HV4.out), HB4⟩
      case measure => simp [intOf]; omega
    · obtain rfl : k = 4 := by omega
      have HZ := Lib.hid (K3.out.trans (HB.out.mono (by omega)))
      have hlen := pfx_length o a b c n 4
      have hv := HV.out.below HZ.out |>.more HZ.out.size
      obtain ⟨A, c1, rfl⟩ := hv.form
      have hw := HW.out
      obtain ⟨A2, c2, rfl⟩ := hw.form
      have HC := Lib.hid ((concat_pair wz A A2 c1 c2 l (pfxB o a b c n 4) hv hw (by omega)).mono fun e w' ho => ho.back HZ.out)
      have hE : pfxB o a b c n 4 = insB o a b c n := rfl
      rw [hE] at HC
      rw [hE]
      clear hE hlen hv hw HW HV hlt hk
      generalize (u8s l).length = n1 at HC ⊢
      generalize (u8s (insB o a b c n)).length = n2 at HC ⊢
      go_wp2_with fail
      refine HC.out.mono ?_
      rintro e w5 ⟨v5, rfl, hown5, hb5⟩
      go_wp2_with fail
      go_ret
      exact ⟨v5, rfl, hown5, hb5⟩
end Go.Proofs.YtbknmapkdjmcjaaGreatDoor.By
