/-
  WALK of layer 8: Check.
-/
import Derived.Test.YtbknmapkdjmcjaaGreatDoorIc
namespace Go.Proofs.YtbknmapkdjmcjaaGreatDoor.By
open Go.ChangeShapes Go.WideShapes Go.ChangeAt Go.RowKit
open Mem

theorem check_kind (o a b c n : Int) (w : World) (h : Txs w) (hn : ¬ (1 ≤ o ∧ o ≤ 28)) : Calls Tryz.prog 133 #[.agg #[.int .i64 o, .int .i64 a, .int .i64 b, .int .i64 c, .int .i64 n]] w fun e w' => e = .returned (.int .i64 8) ∧ Below w.heap.size w w' := by
  have HN := Lib.hid (name_any o (w.alloc (.cells (insC o a b c n) 94)) (h.below ((Below.refl _ _).alloc (Nat.le_refl _) _)))
  rw [(outside o hn).1] at HN
  unfold insC at HN
  clear h hn
  go_enter Tryz.func133, Tryz.ntmps133
  go_wp2_with fail
  refine HN.out.mono ?_
  rintro e w' ⟨rfl, rfl⟩
  go_wp2_with fail
  go_ret
  exact ⟨rfl, (Below.refl _ _).alloc (Nat.le_refl _) _⟩

set_option maxHeartbeats 4000000 in
theorem check_in (o a b c n : Int) (w : World) (h : Txs w) (hn : 1 ≤ o ∧ o ≤ 28) : Calls Tryz.prog 133 #[.agg #[.int .i64 o, .int .i64 a, .int .i64 b, .int .i64 c, .int .i64 n]] w fun e w' => e = .returned (.int .i64 (chV o a b c n)) ∧ Below w.heap.size w w' := by
  have HT := Lib.hid h
  have HN := Lib.hid (name_any o (w.alloc (.cells (insC o a b c n) 94)) (h.below ((Below.refl _ _).alloc (Nat.le_refl _) _)))
  have q1 := name_ne hn
  have H0 := Lib.hid (Blk.at_ (w := w) 94 (insC o a b c n) rfl)
  have B0 := Lib.hid ((Below.refl w.heap.size w).alloc (Nat.le_refl _) (.cells (insC o a b c n) 94))
  have HIN := Lib.hid hn
  obtain ⟨q1, q2⟩ := q1
  generalize nmV o = nm at HN q1 q2
  unfold insC at HN
  clear h hn
  go_enter Tryz.func133, Tryz.ntmps133
  go_wp2_with fail
  refine HN.out.mono ?_
  rintro e w' ⟨rfl, rfl⟩
  go_wp2_with fail
  refine (apart_any o a b c n _).mono ?_
  rintro e w1 ⟨rfl, hb1⟩
  have hs1 : w.heap.size + 1 ≤ w1.heap.size := by simpa using hb1.size
  have K0 := Lib.hid (H0.out.below hb1 (by simp))
  have K1 := Lib.hid (B0.out.trans (hb1.mono (by simp)))
  clear hb1 H0 B0 HN q1 q2
  go_wp2_with fail
  refine (forms_any _).mono ?_
  rintro e w2 ⟨rfl, hb2⟩
  have hs2 : w1.heap.size + 1 ≤ w2.heap.size := by simpa using hb2.size
  have L0 := Lib.hid ((K0.out.alloc _).below hb2 (by simp; omega))
  have L1 := Lib.hid ((Blk.at_ 181 (aptC a b c n) rfl).below hb2 (by simp))
  have L2 := Lib.hid (K1.out.trans (((Below.refl w1.heap.size w1).alloc (Nat.le_refl _) _).trans (hb2.mono (by simp)) |>.mono (by omega)))
  clear hb2 K0 K1
  generalize w1.heap.size = g1 at hs1 hs2 L1 ⊢
  go_wp2_with fail
  go_loopw [15] (fun i wr => ∃ k : Nat, k ≤ 4 ∧ i = .int .i64 k ∧ Hid (∀ j, j < k → inV a b c n j) ∧ Hid (Below w2.heap.size w2 wr)) (fun i _ => 4 - (intOf i).toNat)
  case atStart => exact ⟨0, by omega, rfl, Lib.hid (fun j hj => by omega), Lib.hid (Below.refl _ _)⟩
  case round =>
    obtain ⟨k, hk, rfl, HR, HB⟩ := hrel
    have hsr := HB.out.size
    by_cases hlt : k < 4
    · have hd : decide ((k : Int) < 4) = true := by simp; omega
      have hI := idf k hlt
      have hc : wr.cell? ⟨g1, k, none⟩ = some (.int .i64 (opdV a b c n k)) := by
        rw [(L1.out.below HB.out (by omega)).cell, apt_at a b c n k hlt]
      have lg : g1 < wr.heap.size := by omega
      have hm : IntKind.i64.wrap ((k : Int) + 1) = (k : Int) + 1 := IntWalk.i64_in _ (by omega)
      have HB2 := Lib.hid ((L2.out).trans (HB.out.mono (by omega)))
      have hin : Hid (∀ x, x = opdV a b c n k → (lstV k ≤ x ∧ x ≤ mstV k ↔ inV a b c n k)) := Lib.hid (fun x hx => by subst hx; rfl)
      have hw0 : w.heap.size ≤ wr.heap.size := by omega
      by_cases hlow : opdV a b c n k < lstV k
      · have HF := Lib.hid (ch_range (a := a) (b := b) (c := c) (n := n) HIN.out k hlt (fun h => by have := h.1; omega))
        have hd1 : decide (opdV a b c n k < lstV k) = true := by simpa using hlow
        generalize opdV a b c n k = x at hc hd1
        generalize lstV k = y at hI hd1
        generalize mstV k = z at hI 
        generalize widV k = u at hI
        generalize rdF k = v at hI
        clear hlow hin hk HR
        go_wp2_with fail
        go_quiet (fail)
        go_wp2_with fail
        go_ret
        exact ⟨by rw [HF.out]; rfl, below_drewN (HB2.out.alloc hw0 _) nq⟩
      · have hd1 : decide (opdV a b c n k < lstV k) = false := by simpa using hlow
        by_cases hhigh : mstV k < opdV a b c n k
        · have HF := Lib.hid (ch_range (a := a) (b := b) (c := c) (n := n) HIN.out k hlt (fun h => by have := h.2; omega))
          have hd2 : decide (mstV k < opdV a b c n k) = true := by simpa using hhigh
          generalize opdV a b c n k = x at hc hd1 hd2
          generalize lstV k = y at hI hd1
          generalize mstV k = z at hI hd2
          generalize widV k = u at hI
          generalize rdF k = v at hI
          clear hlow hhigh hin hk HR
          go_wp2_with fail
          go_quiet (fail)
          go_wp2_with fail
          go_ret
          exact ⟨by rw [HF.out]; rfl, below_drewN (HB2.out.alloc hw0 _) nq⟩
        · have hd2 : decide (mstV k < opdV a b c n k) = false := by simpa using hhigh
          have HR2 : Hid (∀ j, j < k + 1 → inV a b c n j) := Lib.hid (fun j hj => by
            by_cases hjk : j = k
            · subst hjk; exact ⟨by omega, by omega⟩
            · exact HR.out j (by omega))
          have HB3 := Lib.hid (fun (o : Obj) nq => below_drewN (HB.out.alloc hsr o) nq)
          generalize opdV a b c n k = x at hc hd1 hd2
          generalize lstV k = y at hI hd1
          generalize mstV k = z at hI hd2
          generalize widV k = u at hI
          generalize rdF k = v at hI
          clear hlow hhigh hin hk HR
          go_wp2_with fail
          go_quiet (fail)
          go_wp2_with fail
          go_roundw
          case rel => exact ⟨k + 1, by omega, by go_num, HR2, Lib.hid (HB3.out _ _)⟩
          case measure => simp [intOf]; omega
    · obtain rfl : k = 4 := by omega
      obtain ⟨wz, hwz⟩ : ∃ wz, wz = wr := ⟨_, rfl⟩
      subst hwz
      have HBW := Lib.hid ((L2.out).trans (HB.out.mono (by omega)))
      have HTX := Lib.hid (HT.out.below HBW.out)
      have ko : wz.cell? ⟨w.heap.size, 0, none⟩ = some (.int .i64 o) := by rw [(L0.out.below HB.out (by omega)).cell]; rfl
      have l0 : w.heap.size < wz.heap.size := by omega
      have KG := Lib.hid (L1.out.below HB.out (by omega))
      have lg : g1 < wz.heap.size := by omega
      have HS := Lib.hid (shape_small o)
      have HSH := Lib.hid (shape_any o wz HTX.out)
      have HA : Hid (∀ k : Nat, (shV o).data.toList[k]? = some 45 ∧ opdV a b c n k ≠ 0 → argV o a b c n k) := Lib.hid (fun k h => h)
      have HA2 : Hid (∀ k : Nat, argV o a b c n k → (shV o).data.toList[k]? = some 45 ∧ opdV a b c n k ≠ 0) := Lib.hid (fun k h => h)
      generalize shV o = s at HS HSH HA HA2
      have hsz : s.size ≤ 4 := by
        have : s.size = s.data.toList.length := Array.length_toList.symm
        rcases HS.out.1 with h | h
        · rw [this, h]; simp
        · omega
      clear hlt hk
      go_wp2_with (go_at_call 167; refine HSH.out.mono ?_; rintro e w' ⟨rfl, rfl⟩)
      go_loopw [38] (fun _ wr => ∃ pos : Nat, pos ≤ s.size ∧ wr.heap[wz.heap.size]? = some (.stringIter s pos) ∧ Hid (Below wz.heap.size wz wr) ∧ Hid (∀ j, j < pos → ¬ argV o a b c n j)) (fun _ wr => s.size - wr.iterPos wz.heap.size)
      case atStart => exact ⟨0, by omega, World.iter_heap wz s 0, Lib.hid ((Below.refl _ _).alloc (Nat.le_refl _) _), Lib.hid (fun j h => by omega)⟩
      case round =>
        obtain ⟨pos, hpos, hit, HBX, HNA⟩ := hrel
        have hpos0 := iterPos_of hit
        have hsx := HBX.out.size
        by_cases hp : pos < s.size
        · have hpl : pos < s.data.toList.length := by simpa using hp
          have hgl : (s[pos]'hp) = s.data.toList[pos] := by simp [ByteArray.getElem_eq_getElem_data]
          have hx : (s[pos]'hp).toNat < 128 := by rw [hgl]; exact HS.out.2 pos hpl
          have hnx : ∀ ty, (Instr.next (.pointer (some ⟨wz.heap.size, 0, none⟩)) true ty).run Tryz.prog wr = _ := fun ty => Lib.run_next_ascii_at wr wz.heap.size s pos ty hit hp hx
          have hit2 := Lib.iterAt_heap wr wz.heap.size s pos (pos + 1) hit
          have HB2 := Lib.hid (Lib.below_iterAt HBX.out (k := wz.heap.size) (Nat.le_refl _) s (pos + 1))
          obtain ⟨W1, hW1⟩ : ∃ W1, wr.iterAt wz.heap.size s (pos + 1) = W1 := ⟨_, rfl⟩
          rw [hW1] at hnx hit2 HB2
          have hpos2 := iterPos_of hit2
          have hc : W1.cell? ⟨g1, pos, none⟩ = some (.int .i64 (opdV a b c n pos)) := by
            rw [(KG.out.below HB2.out lg).cell, apt_at a b c n pos (by omega)]
          have lg1 : g1 < W1.heap.size := by have := HB2.out.size; omega
          have hp4 : (pos : Int) < 4 := by omega
          have HBA := Lib.hid (HBW.out.trans (HB2.out.mono (by omega)))
          have HLET : Hid (s.data.toList[pos]? = some 45 ↔ (s[pos]'hp).toNat = 45) := Lib.hid (by
            rw [List.getElem?_eq_getElem hpl, ← hgl]
            constructor
            · intro e; injection e with e; rw [e]; rfl
            · intro e; congr 1; exact UInt8.toNat_inj.1 (by rw [e]; rfl))
          clear hit hW1 hgl hx
          generalize hcc : (s[pos]'hp).toNat = cc at hnx HLET
          clear hcc
          by_cases hl : cc = 45
          · by_cases hz : opdV a b c n pos = 0
            · have HN2 : Hid (∀ j, j < pos + 1 → ¬ argV o a b c n j) := Lib.hid (fun j hj => by
                by_cases hjk : j = pos
                · subst hjk; exact fun h => (HA2.out _ h).2 hz
                · exact HNA.out j (by omega))
              subst hl
              rw [hz] at hc
              clear hz HNA HLET HBA
              go_wp2_with fail
              go_roundw
              case rel => exact ⟨pos + 1, by omega, hit2, HB2, HN2⟩
              case measure => rw [hpos2, hpos0]; omega
            · have HF := Lib.hid (ch_arg HIN.out HR.out pos (by omega) (HA.out pos ⟨HLET.out.2 hl, hz⟩))
              have hz2 : (opdV a b c n pos == 0) = false := by simpa using hz
              have hz3 : (opdV a b c n pos != 0) = true := by simpa using hz
              subst hl
              generalize opdV a b c n pos = x at hc hz2 hz3
              clear hz HNA HLET hit2 hpos2
              go_wp2_with fail
              go_ret
              exact ⟨by rw [HF.out]; rfl, HBA.out⟩
          · have HN2 : Hid (∀ j, j < pos + 1 → ¬ argV o a b c n j) := Lib.hid (fun j hj => by
              by_cases hjk : j = pos
              · subst hjk; exact fun h => hl (HLET.out.1 (HA2.out _ h).1)
              · exact HNA.out j (by omega))
            have hl2 : ((cc : Int) == 45) = false := by simp; omega
            clear hl HNA HLET HBA
            go_wp2_with fail
            go_roundw
            case rel => exact ⟨pos + 1, by omega, hit2, HB2, HN2⟩
            case measure => rw [hpos2, hpos0]; omega
        · have hnx : ∀ ty, (Instr.next (.pointer (some ⟨wz.heap.size, 0, none⟩)) true ty).run Tryz.prog wr = _ := fun ty => Lib.run_next_end_at wr wz.heap.size s pos ty hit hp
          have HF := Lib.hid (ch_ok HIN.out HR.out (fun k hk4 h => by
            have h2 := (HA2.out _ h).1
            have h3 : k < s.data.toList.length := (List.getElem?_eq_some_iff.1 h2).1
            have h4 : s.size = s.data.toList.length := Array.length_toList.symm
            exact HNA.out k (by omega) h))
          have HBA := Lib.hid (HBW.out.trans (HBX.out.mono (by omega)))
          clear hit HNA hp hpos hpos0
          go_wp2_with fail
          go_ret
          exact ⟨by rw [HF.out]; rfl, HBA.out⟩

/-- Check, whatever the instruction. -/
theorem check_any (o a b c n : Int) (w : World) (h : Txs w) : Calls Tryz.prog 133 #[.agg #[.int .i64 o, .int .i64 a, .int .i64 b, .int .i64 c, .int .i64 n]] w fun e w' => e = .returned (.int .i64 (chV o a b c n)) ∧ Below w.heap.size w w' := by
  by_cases hn : 1 ≤ o ∧ o ≤ 28
  · exact check_in o a b c n w h hn
  · rw [ch_kind hn]
    exact check_kind o a b c n w h hn
end Go.Proofs.YtbknmapkdjmcjaaGreatDoor.By
