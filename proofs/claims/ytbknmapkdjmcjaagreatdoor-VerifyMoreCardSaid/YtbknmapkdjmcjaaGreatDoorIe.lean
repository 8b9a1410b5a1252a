/-
  WALK of layer 8: the document's own Check.
-/
import Derived.Test.YtbknmapkdjmcjaaGreatDoorIc
namespace Go.Proofs.YtbknmapkdjmcjaaGreatDoor.By
open Go.ChangeShapes Go.WideShapes Go.ChangeAt Go.RowKit
open Mem

theorem index_at (s : ByteArray) (pos : Nat) (h : pos < s.size) (w : World) : (Instr.index 9 (.string s) (.int .i64 pos)).run Tryz.prog w = .ok (.int .u8 ((s[pos]'h).toNat : Int)) w := by
  rw [run_index_string w 9 s .i64 pos Tryz.underlying9, dif_pos ⟨by omega, by omega⟩]
  simp

set_option maxHeartbeats 4000000 in
theorem rcheck_any (o a b c n : Int) (w : World) (hlo : -9223372036854775808 ≤ o) (hhi : o ≤ 9223372036854775807) : Calls Tryz.prog 147 #[.agg #[.int .i64 o, .int .i64 a, .int .i64 b, .int .i64 c, .int .i64 n]] w fun e w' => e = .returned (.int .i64 (chV o a b c n)) ∧ Below w.heap.size w w' := by
  have HN := Lib.hid (rname_any o hlo hhi)
  have HSH := Lib.hid (rshape_any o hlo hhi)
  have HOP := Lib.hid (roperand_any o a b c n)
  have H0 := Lib.hid (Blk.at_ (w := w) 94 (insC o a b c n) rfl)
  have B0 := Lib.hid ((Below.refl w.heap.size w).alloc (Nat.le_refl _) (.cells (insC o a b c n) 94))
  clear hlo hhi
  by_cases hn : 1 ≤ o ∧ o ≤ 28
  · obtain ⟨q1, q2⟩ := name_ne hn
    have HIN := Lib.hid hn
    generalize nmV o = nm at HN q1 q2
    clear hn
    go_enter Tryz.func147, Tryz.ntmps147
    go_wp2_with fail
    refine (HN.out _).mono ?_
    rintro e w1 ⟨rfl, hb1⟩
    have hs1 : w.heap.size + 1 ≤ w1.heap.size := by simpa using hb1.size
    have K0 := Lib.hid (H0.out.below hb1 (by simp))
    have K1 := Lib.hid (B0.out.trans (hb1.mono (by simp)))
    clear hb1 H0 B0 HN
    go_wp2_with fail
    clear q1 q2
    go_loopw [3] (fun i wr => ∃ k : Nat, k ≤ 3 ∧ i = .int .i64 k ∧ Hid (∀ j, j < k → inV a b c n j) ∧ Hid (Below w1.heap.size w1 wr)) (fun i _ => 3 - (intOf i).toNat)
    case atStart => exact ⟨0, by omega, rfl, Lib.hid (fun j hj => by omega), Lib.hid (Below.refl _ _)⟩
    case round =>
      obtain ⟨k, hk, rfl, HR, HB⟩ := hrel
      obtain ⟨wz, hwz⟩ : ∃ wz, wz = wr := ⟨_, rfl⟩
      subst hwz
      have hsr := HB.out.size
      have HBZ := Lib.hid (K1.out.trans (HB.out.mono (by omega)))
      have KZ := K0.out.below HB.out (by omega)
      have c0 : wz.cell? ⟨w.heap.size, 0, none⟩ = some (.int .i64 o) := by rw [KZ.cell]; rfl
      have c1 : wz.cell? ⟨w.heap.size, 1, none⟩ = some (.int .i64 a) := by rw [KZ.cell]; rfl
      have c2 : wz.cell? ⟨w.heap.size, 2, none⟩ = some (.int .i64 b) := by rw [KZ.cell]; rfl
      have c3 : wz.cell? ⟨w.heap.size, 3, none⟩ = some (.int .i64 c) := by rw [KZ.cell]; rfl
      have c4 : wz.cell? ⟨w.heap.size, 4, none⟩ = some (.int .i64 n) := by rw [KZ.cell]; rfl
      have HKZ := Lib.hid KZ
      have lz : w.heap.size < wz.heap.size := by omega
      clear KZ
      by_cases hlt : k < 3
      · have hd : decide ((k : Int) < 3) = true := by simp; omega
        have hm : IntKind.i64.wrap ((k : Int) + 1) = (k : Int) + 1 := IntWalk.i64_in _ (by omega)
        have hst : lstV k = 0 ∧ mstV k = 255 := by unfold lstV mstV; rw [if_neg (by omega), if_neg (by omega)]; exact ⟨rfl, rfl⟩
        have HO := Lib.hid (fun w => HOP.out (k : Int) w)
        by_cases hlow : opdV a b c n k < 0
        · have HF := Lib.hid (ch_range (a := a) (b := b) (c := c) (n := n) HIN.out k (by omega) (fun h => by have := h.1; omega))
          have hd1 : decide (opdV a b c n k < 0) = true := by simpa using hlow
          generalize opdV a b c n k = x at HO hd1
          clear hlow hst hk HR
          go_wp2_with fail
          refine (HO.out _).mono ?_
          rintro e w2 ⟨rfl, hb2⟩
          have HB2 := Lib.hid (HBZ.out.trans (hb2.mono (by omega)))
          clear hb2
          go_wp2_with fail
          go_ret
          exact ⟨by rw [HF.out]; rfl, HB2.out⟩
        · have hd1 : decide (opdV a b c n k < 0) = false := by simpa using hlow
          by_cases hhigh : 255 < opdV a b c n k
          · have HF := Lib.hid (ch_range (a := a) (b := b) (c := c) (n := n) HIN.out k (by omega) (fun h => by have := h.2; omega))
            have hd2 : decide (255 < opdV a b c n k) = true := by simpa using hhigh
            generalize opdV a b c n k = x at HO hd1 hd2
            clear hlow hhigh hst hk HR
            go_wp2_with fail
            refine (HO.out _).mono ?_
            rintro e w2 ⟨rfl, hb2⟩
            have HB2 := Lib.hid (HBZ.out.trans (hb2.mono (by omega)))
            have hs2 := hb2.size
            have KZ := HKZ.out.below hb2 (by omega)
            have c0 : w2.cell? ⟨w.heap.size, 0, none⟩ = some (.int .i64 o) := by rw [KZ.cell]; rfl
            have c1 : w2.cell? ⟨w.heap.size, 1, none⟩ = some (.int .i64 a) := by rw [KZ.cell]; rfl
            have c2 : w2.cell? ⟨w.heap.size, 2, none⟩ = some (.int .i64 b) := by rw [KZ.cell]; rfl
            have c3 : w2.cell? ⟨w.heap.size, 3, none⟩ = some (.int .i64 c) := by rw [KZ.cell]; rfl
            have c4 : w2.cell? ⟨w.heap.size, 4, none⟩ = some (.int .i64 n) := by rw [KZ.cell]; rfl
            clear hb2 KZ
            go_wp2_with fail
            refine (HO.out _).mono ?_
            rintro e w3 ⟨rfl, hb3⟩
            have HB3 := Lib.hid (HB2.out.trans (hb3.mono (by omega)))
            clear hb3
            go_wp2_with fail
            go_ret
            exact ⟨by rw [HF.out]; rfl, HB3.out⟩
          · have hd2 : decide (255 < opdV a b c n k) = false := by simpa using hhigh
            have HR2 : Hid (∀ j, j < k + 1 → inV a b c n j) := Lib.hid (fun j hj => by
              by_cases hjk : j = k
              · subst hjk; exact ⟨by omega, by omega⟩
              · exact HR.out j (by omega))
            generalize opdV a b c n k = x at HO hd1 hd2
            clear hlow hhigh hst hk HR
            go_wp2_with fail
            refine (HO.out _).mono ?_
            rintro e w2 ⟨rfl, hb2⟩
            have HB2 := Lib.hid (HB.out.trans (hb2.mono (by omega)))
            have hs2 := hb2.size
            have KZ := HKZ.out.below hb2 (by omega)
            have c0 : w2.cell? ⟨w.heap.size, 0, none⟩ = some (.int .i64 o) := by rw [KZ.cell]; rfl
            have c1 : w2.cell? ⟨w.heap.size, 1, none⟩ = some (.int .i64 a) := by rw [KZ.cell]; rfl
            have c2 : w2.cell? ⟨w.heap.size, 2, none⟩ = some (.int .i64 b) := by rw [KZ.cell]; rfl
            have c3 : w2.cell? ⟨w.heap.size, 3, none⟩ = some (.int .i64 c) := by rw [KZ.cell]; rfl
            have c4 : w2.cell? ⟨w.heap.size, 4, none⟩ = some (.int .i64 n) := by rw [KZ.cell]; rfl
            clear hb2 KZ
            go_wp2_with fail
            refine (HO.out _).mono ?_
            rintro e w3 ⟨rfl, hb3⟩
            have HB3 := Lib.hid (HB2.out.trans (hb3.mono (by omega)))
            clear hb3
            go_wp2_with fail
            go_roundw
            case rel => exact ⟨k + 1, by omega, by go_num, HR2, HB3⟩
            case measure => simp [intOf]; omega
      · obtain rfl : k = 3 := by omega
        have e3 : opdV a b c n 3 = n := rfl
        by_cases hlow : n < -2147483648
        · have HF := Lib.hid (ch_range (a := a) (b := b) (c := c) (n := n) HIN.out 3 (by omega) (fun h => by have h1 := h.1; have : lstV 3 = -2147483648 := rfl; have : opdV a b c n ((3 : Nat) : Int) = n := rfl; omega))
          have hd1 : decide (n < -2147483648) = true := by simpa using hlow
          clear hlow HR hlt hk e3
          go_wp2_with fail
          go_ret
          exact ⟨by rw [HF.out]; rfl, HBZ.out⟩
        · have hd1 : decide (n < -2147483648) = false := by simpa using hlow
          by_cases hhigh : 2147483647 < n
          · have HF := Lib.hid (ch_range (a := a) (b := b) (c := c) (n := n) HIN.out 3 (by omega) (fun h => by have h1 := h.2; have : mstV 3 = 2147483647 := rfl; have : opdV a b c n ((3 : Nat) : Int) = n := rfl; omega))
            have hd2 : decide (2147483647 < n) = true := by simpa using hhigh
            clear hlow hhigh HR hlt hk e3
            go_wp2_with fail
            go_ret
            exact ⟨by rw [HF.out]; rfl, HBZ.out⟩
          · have hd2 : decide (2147483647 < n) = false := by simpa using hhigh
            have HR2 : Hid (∀ j, j < 4 → inV a b c n j) := Lib.hid (fun j hj => by
              by_cases hjk : j = 3
              · subst hjk; exact ⟨by show -2147483648 ≤ n; omega, by show n ≤ 2147483647; omega⟩
              · exact HR.out j (by omega))
            have HS := Lib.hid (shape_small o)
            have HA : Hid (∀ k : Nat, (shV o).data.toList[k]? = some 45 ∧ opdV a b c n k ≠ 0 → argV o a b c n k) := Lib.hid (fun k h => h)
            have HA2 : Hid (∀ k : Nat, argV o a b c n k → (shV o).data.toList[k]? = some 45 ∧ opdV a b c n k ≠ 0) := Lib.hid (fun k h => h)
            generalize shV o = s at HS HSH HA HA2
            have hsz : s.size ≤ 4 := by
              have : s.size = s.data.toList.length := Array.length_toList.symm
              rcases HS.out.1 with h | h
              · rw [this, h]; simp
              · omega
            clear hlow hhigh HR hlt hk e3
            go_wp2_with fail
            refine (HSH.out _).mono ?_
            rintro e w2 ⟨rfl, hb2⟩
            have hs2 := hb2.size
            have HB2 := Lib.hid (HBZ.out.trans (hb2.mono (by omega)))
            have HK2 := Lib.hid (HKZ.out.below hb2 (by omega))
            clear hb2 HBZ HKZ c0 c1 c2 c3 c4
            go_wp2_with fail
            go_loopw [5] (fun i wr => ∃ pos : Nat, pos ≤ s.size ∧ i = .int .i64 pos ∧ Hid (Below w2.heap.size w2 wr) ∧ Hid (∀ j, j < pos → ¬ argV o a b c n j)) (fun i _ => s.size - (intOf i).toNat)
            case atStart => exact ⟨0, by omega, rfl, Lib.hid (Below.refl _ _), Lib.hid (fun j h => by omega)⟩
            case round =>
              obtain ⟨pos, hpos, rfl, HBX, HNA⟩ := hrel
              have hsx := HBX.out.size
              have HBA := Lib.hid (HB2.out.trans (HBX.out.mono (by omega)))
              by_cases hp : pos < s.size
              · have hpl : pos < s.data.toList.length := by simpa using hp
                have hgl : (s[pos]'hp) = s.data.toList[pos] := by simp [ByteArray.getElem_eq_getElem_data]
                have hix := index_at s pos hp
                have hd3 : decide ((pos : Int) < s.size) = true := by simp; omega
                have hm : IntKind.i64.wrap ((pos : Int) + 1) = (pos : Int) + 1 := IntWalk.i64_in _ (by omega)
                have HLET : Hid (s.data.toList[pos]? = some 45 ↔ (s[pos]'hp).toNat = 45) := Lib.hid (by
                  rw [List.getElem?_eq_getElem hpl, ← hgl]
                  constructor
                  · intro e; injection e with e; rw [e]; rfl
                  · intro e; congr 1; exact UInt8.toNat_inj.1 (by rw [e]; rfl))
                have KZ := HK2.out.below HBX.out (by omega)
                have c0 : wr.cell? ⟨w.heap.size, 0, none⟩ = some (.int .i64 o) := by rw [KZ.cell]; rfl
                have c1 : wr.cell? ⟨w.heap.size, 1, none⟩ = some (.int .i64 a) := by rw [KZ.cell]; rfl
                have c2 : wr.cell? ⟨w.heap.size, 2, none⟩ = some (.int .i64 b) := by rw [KZ.cell]; rfl
                have c3 : wr.cell? ⟨w.heap.size, 3, none⟩ = some (.int .i64 c) := by rw [KZ.cell]; rfl
                have c4 : wr.cell? ⟨w.heap.size, 4, none⟩ = some (.int .i64 n) := by rw [KZ.cell]; rfl
                have HO := Lib.hid (fun w => HOP.out (pos : Int) w)
                generalize hcc : (s[pos]'hp).toNat = cc at hix HLET
                clear hcc hgl KZ
                by_cases hl : cc = 45
                · by_cases hz : opdV a b c n pos = 0
                  · have HN2 : Hid (∀ j, j < pos + 1 → ¬ argV o a b c n j) := Lib.hid (fun j hj => by
                      by_cases hjk : j = pos
                      · subst hjk; exact fun h => (HA2.out _ h).2 hz
                      · exact HNA.out j (by omega))
                    subst hl
                    rw [hz] at HO
                    clear hz HNA HLET HBA
                    go_wp2_with fail
                    refine (HO.out _).mono ?_
                    rintro e w3 ⟨rfl, hb3⟩
                    have HB3 := Lib.hid (HBX.out.trans (hb3.mono (by omega)))
                    clear hb3
                    go_wp2_with fail
                    go_roundw
                    case rel => exact ⟨pos + 1, by omega, by go_num, HB3, HN2⟩
                    case measure => simp [intOf]; omega
                  · have HF := Lib.hid (ch_arg HIN.out HR2.out pos (by omega) (HA.out pos ⟨HLET.out.2 hl, hz⟩))
                    have hz2 : (opdV a b c n pos == 0) = false := by simpa using hz
                    have hz3 : (opdV a b c n pos != 0) = true := by simpa using hz
                    subst hl
                    generalize opdV a b c n pos = x at HO hz2 hz3
                    clear hz HNA HLET
                    go_wp2_with fail
                    refine (HO.out _).mono ?_
                    rintro e w3 ⟨rfl, hb3⟩
                    have HB3 := Lib.hid (HBA.out.trans (hb3.mono (by omega)))
                    clear hb3
                    go_wp2_with fail
                    go_ret
                    exact ⟨by rw [HF.out]; rfl, HB3.out⟩
                · have HN2 : Hid (∀ j, j < pos + 1 → ¬ argV o a b c n j) := Lib.hid (fun j hj => by
                    by_cases hjk : j = pos
                    · subst hjk; exact fun h => hl (HLET.out.1 (HA2.out _ h).1)
                    · exact HNA.out j (by omega))
                  have hl2 : ((cc : Int) == 45) = false := by simp; omega
                  clear hl HNA HLET HBA
                  go_wp2_with fail
                  go_roundw
                  case rel => exact ⟨pos + 1, by omega, by go_num, HBX, HN2⟩
                  case measure => simp [intOf]; omega
              · have hd3 : decide ((pos : Int) < s.size) = false := by simp; omega
                have HF := Lib.hid (ch_ok HIN.out HR2.out (fun k hk4 h => by
                  have h2 := (HA2.out _ h).1
                  have h3 : k < s.data.toList.length := (List.getElem?_eq_some_iff.1 h2).1
                  have h4 : s.size = s.data.toList.length := Array.length_toList.symm
                  exact HNA.out k (by omega) h))
                clear HNA hpos
                go_wp2_with fail
                go_ret
                exact ⟨by rw [HF.out]; rfl, HBA.out⟩
  · rw [(outside o hn).1] at HN
    rw [ch_kind hn]
    clear hn
    go_enter Tryz.func147, Tryz.ntmps147
    go_wp2_with fail
    refine (HN.out _).mono ?_
    rintro e w1 ⟨rfl, hb1⟩
    go_wp2_with fail
    go_ret
    exact ⟨rfl, B0.out.trans (hb1.mono (by simp))⟩
end Go.Proofs.YtbknmapkdjmcjaaGreatDoor.By
