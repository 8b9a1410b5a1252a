/-
  WALK of layer 9: Text, walked.
-/
import Derived.Test.YtnplhpbbdgnmiaaDoorLx
namespace Go.Proofs.YtnplhpbbdgnmiaaDoor.Ln
open Go.RowKit
open Mem Go.Lib

set_option maxRecDepth 100000 in
set_option maxHeartbeats 4000000 in
theorem text_any (o a b c n : Int) (ha : I64 a) (hb : I64 b) (hc : I64 c) (hn : I64 n) (w : World) (ht : Tb w) (hx : By.Txs w) (hy : Si.Txs w) :
    Calls Tryd.prog 6 #[.agg #[.int .i64 o, .int .i64 a, .int .i64 b, .int .i64 c, .int .i64 n]] w (XAns o a b c n w) := by
  obtain ⟨i0, hi0, hz0, hz1, hz2⟩ := info_parts infoS
  have HB0 := Lib.hid ((Below.refl w.heap.size w).alloc (Nat.le_refl _) (.cells (By.insC o a b c n) 23))
  have HCK := Lib.hid (By.check_any o a b c n (w.alloc (.cells (By.insC o a b c n) 23)) (hx.below HB0.out))
  have HTX := Lib.hid hx
  have HTY := Lib.hid hy
  have HTB := Lib.hid ht
  have HOW := Lib.hid (By.own_any o)
  have HOP := Lib.hid (By.operand_any o a b c n)
  have H64 := Lib.hid (opd_i64 ha hb hc hn)
  have H0 := Lib.hid (By.Blk.at_ (w := w) 23 (By.insC o a b c n) rfl)
  have HST := Lib.hid (MSt.start o a b c n)
  obtain ⟨hs4, hk2⟩ := shape_facts o
  have HS4 := Lib.hid hs4
  have HSA := Lib.hid (shape_ascii o)
  have HT := Lib.hid (show txtV o a b c n = if By.chV o a b c n ≠ 0 then (⟨#[]⟩, By.chV o a b c n) else if By.ownV o = false then (⟨#[]⟩, 8) else match wds a b c n 0 (By.shV o).data.toList with | some ws => (joinB (By.nmV o :: ws), 0) | none => (⟨#[]⟩, 9) from rfl)
  clear ha hb hc hn hs4 hk2 ht hx hy
  go_enter Tryd.func6, Tryd.ntmps6
  go_wp2_with fail
  refine HCK.out.mono ?_
  rintro e w1 ⟨rfl, hb1⟩
  have hs1 : w.heap.size + 1 ≤ w1.heap.size := by simpa using hb1.size
  have K1 := Lib.hid (H0.out.below hb1 (by simp))
  have B1 := Lib.hid (HB0.out.trans (hb1.mono (by simp)))
  clear hb1 H0 HB0 HCK
  obtain ⟨ck, hck⟩ : ∃ ck, By.chV o a b c n = ck := ⟨_, rfl⟩
  rw [hck] at HT
  rw [hck]
  clear hck
  by_cases hz : ck = 0
  · subst hz
    have c0 : w1.cell? ⟨w.heap.size, 0, none⟩ = some (.int .i64 o) := by rw [K1.out.cell]; rfl
    have HNM := Lib.hid (By.name_any o w1 (HTX.out.below B1.out))
    go_wp2_with fail
    refine (HOW.out _).mono ?_
    rintro e w2 ⟨rfl, rfl⟩
    obtain ⟨ow, how⟩ : ∃ ow, By.ownV o = ow := ⟨_, rfl⟩
    rw [how] at HT
    rw [how]
    cases ow with
    | false =>
      have HF := Lib.hid (show txtV o a b c n = (⟨#[]⟩, 8) from HT.out)
      clear how
      go_wp2_with fail
      go_ret2
      exact ⟨by rw [HF.out]; rfl, B1.out⟩
    | true =>
      clear how
      go_wp2_with fail
      refine HNM.out.mono ?_
      rintro e w2 ⟨rfl, rfl⟩
      clear HNM
      obtain ⟨nm, hnm⟩ : ∃ nm, By.nmV o = nm := ⟨_, rfl⟩
      have HNME := Lib.hid hnm
      rw [hnm]
      clear hnm
      obtain ⟨w3, hw3⟩ : ∃ W, w1.alloc (.cells #[.string nm] 9) = W := ⟨_, rfl⟩
      have K3 := Lib.hid (show Blk w3 w.heap.size 23 (By.insC o a b c n) by rw [← hw3]; exact K1.out.alloc _)
      have B3 := Lib.hid (show Below w.heap.size w w3 by rw [← hw3]; exact B1.out.alloc B1.out.size _)
      have O3 := Lib.hid (show w3.ownsRow (w.heap.size + 1) 9 1 (.slice (some ⟨w1.heap.size, 0, none⟩) 1 1) 1 (strs [nm]) by rw [← hw3]; exact built_str w1 _ nm hs1)
      have HS3 := Lib.hid (show w3.heap.size = w1.heap.size + 1 by rw [← hw3]; simp)
      have c0 : w3.cell? ⟨w.heap.size, 0, none⟩ = some (.int .i64 o) := by rw [K3.out.cell]; rfl
      have HSH := Lib.hid (By.shape_any o w3 (HTX.out.below B3.out))
      clear K1 B1
      go_wp2_with fail
      refine HSH.out.mono ?_
      rintro e w4 ⟨rfl, rfl⟩
      clear HSH
      obtain ⟨sh, hsh⟩ : ∃ sh, By.shV o = sh := ⟨_, rfl⟩
      rw [hsh]
      have HSE := Lib.hid hsh
      rw [hsh] at HT HS4 HSA
      clear hsh
      have hs13 : w.heap.size + 1 ≤ w3.heap.size := by have := HS3.out; omega
      obtain ⟨ov, hov⟩ : ∃ ov, Value.slice (some ⟨w1.heap.size, 0, none⟩) 1 1 = ov := ⟨_, rfl⟩
      have HO0 := Lib.hid (show (w3.alloc (.stringIter sh 0)).ownsRow (w.heap.size + 1) 9 1 (.slice (some ⟨w1.heap.size, 0, none⟩) 1 1) [nm].length (strs [nm]) from own_keep O3.out fun g _ hg => Below.heap_alloc _ _ _ hg)
      clear hov O3
      go_wp2_with fail
      go_loopw [5] (fun ov wr => ∃ (pos : Nat) (L : List ByteArray), pos ≤ sh.size ∧ wr.heap[w3.heap.size]? = some (.stringIter sh pos) ∧ Hid (Below (w.heap.size + 1) w3 wr) ∧ Hid (wr.ownsRow (w.heap.size + 1) 9 1 ov L.length (strs L)) ∧ Hid (MSt o a b c n pos L)) (fun _ wr => sh.size - wr.iterPos w3.heap.size)
      case atStart => exact ⟨0, [nm], by omega, World.iter_heap w3 sh 0, Lib.hid ((Below.refl _ _).alloc hs13 _), HO0, by rw [← HNME.out]; exact HST⟩
      case round =>
        obtain ⟨pos, L, hpos, hit, HB, HO, HM⟩ := hrel
        have hpos0 := iterPos_of hit
        have hsx := HB.out.size
        by_cases hp : pos < sh.size
        · have hpl : pos < sh.data.toList.length := by rw [len_list]; exact hp
          have hgl : (sh[pos]'hp) = sh.data.toList[pos] := by simp [ByteArray.getElem_eq_getElem_data]
          have hx : (sh[pos]'hp).toNat < 128 := by rw [hgl]; exact HSA.out pos hpl
          have hnx : ∀ ty, (Instr.next (.pointer (some ⟨w3.heap.size, 0, none⟩)) true ty).run Tryd.prog wr = _ := fun ty => Lib.run_next_ascii_at wr w3.heap.size sh pos ty hit hp hx
          have hit2 := Lib.iterAt_heap wr w3.heap.size sh pos (pos + 1) hit
          have HB2 := Lib.hid (Lib.below_iterAt HB.out (k := w3.heap.size) hs13 sh (pos + 1))
          have HO2 := Lib.hid (own_iterAt HO.out hit (pos + 1))
          obtain ⟨W1, hW1⟩ : ∃ W1, wr.iterAt w3.heap.size sh (pos + 1) = W1 := ⟨_, rfl⟩
          rw [hW1] at hnx hit2 HB2 HO2
          have hpos2 := iterPos_of hit2
          have hltI : w3.heap.size < W1.heap.size := (Array.getElem?_eq_some_iff.1 hit2).1
          have KZ := Lib.hid (K3.out.below HB2.out (by omega))
          have HBW := Lib.hid (B3.out.trans (HB2.out.mono (by omega)))
          have HX := Lib.hid (show (By.shV o).data.toList[pos]? = some (sh[pos]'hp) by rw [HSE.out, hgl]; exact List.getElem?_eq_getElem hpl)
          clear hit hW1 hgl hx HB HO
          obtain ⟨x, hxe⟩ : ∃ x, (sh[pos]'hp) = x := ⟨_, rfl⟩
          rw [hxe] at hnx HX
          clear hxe
          by_cases h45 : x = 45
          · subst h45
            have HM2 := Lib.hid (HM.out.skip HX.out)
            have hnx2 := hnx
            clear HM HX
            go_wp2_with fail
            go_roundw
            case rel => exact ⟨pos + 1, L, by omega, hit2, HB2, HO2, HM2⟩
            case measure => rw [hpos2, hpos0]; omega
          · have hq : ((x.toNat : Int) == 45) = false := eq_false fun e => h45 (UInt8.toNat_inj.1 (by have h2 : (45 : UInt8).toNat = 45 := rfl; omega))
            have c0 : W1.cell? ⟨w.heap.size, 0, none⟩ = some (.int .i64 o) := by rw [KZ.out.cell]; rfl
            have c1 : W1.cell? ⟨w.heap.size, 1, none⟩ = some (.int .i64 a) := by rw [KZ.out.cell]; rfl
            have c2 : W1.cell? ⟨w.heap.size, 2, none⟩ = some (.int .i64 b) := by rw [KZ.out.cell]; rfl
            have c3 : W1.cell? ⟨w.heap.size, 3, none⟩ = some (.int .i64 c) := by rw [KZ.out.cell]; rfl
            have c4 : W1.cell? ⟨w.heap.size, 4, none⟩ = some (.int .i64 n) := by rw [KZ.out.cell]; rfl
            have hlz : w.heap.size < W1.heap.size := KZ.out.lt
            have hi := H64.out (pos : Int)
            have HOK := Lib.hid (HOP.out (pos : Int))
            obtain ⟨v, hv⟩ : ∃ v, By.opdV a b c n (pos : Int) = v := ⟨_, rfl⟩
            rw [hv] at hi HOK
            obtain ⟨p, hp2⟩ : ∃ p, wrV ((x.toNat : Nat) : Int) v = p := ⟨_, rfl⟩
            have HPE := Lib.hid (show wrV ((x.toNat : Nat) : Int) (By.opdV a b c n (pos : Int)) = p by rw [hv]; exact hp2)
            have HPS := Lib.hid (show p.1.size ≤ 20 by
              rw [← hp2]; unfold wrV
              split
              · have := text_size (wrap64 (1 + v)); show (Si.textV _).size ≤ 20; omega
              · exact dec_size hi)
            have HWR := Lib.hid (fun W (h1 : Tb W) (h2 : Si.Txs W) => by have h := written_any ((x.toNat : Nat) : Int) v hi.1 hi.2 W h1 h2; rw [hp2] at h; exact h)
            clear hv hp2 hi
            go_wp2_with fail
            refine (HOK.out _).mono ?_
            rintro e W2 ⟨rfl, hb2⟩
            have HB3 := Lib.hid (HB2.out.trans (hb2.mono (by omega)))
            have hit3 := (hb2.block _ hltI).trans hit2
            have HO3 := Lib.hid (own_keep (w' := W2) HO2.out fun g _ hg => hb2.block g hg)
            have HBW2 := Lib.hid (HBW.out.trans (hb2.mono HBW.out.size))
            have hltI2 : w3.heap.size < W2.heap.size := (Array.getElem?_eq_some_iff.1 hit3).1
            clear hb2 HB2 HO2 hit2 KZ HBW c0 c1 c2 c3 c4
            go_wp2_with fail
            refine (HWR.out W2 (HTB.out.below HBW2.out) (HTY.out.below HBW2.out)).mono ?_
            rintro e W3 ⟨rfl, hb3⟩
            have HB4 := Lib.hid (HB3.out.trans (hb3.mono (by omega)))
            have hit4 := (hb3.block _ hltI2).trans hit3
            have HO4 := Lib.hid (own_keep (w' := W3) HO3.out fun g _ hg => hb3.block g hg)
            have HBW3 := Lib.hid (HBW2.out.trans (hb3.mono HBW2.out.size))
            have hltI3 : w3.heap.size < W3.heap.size := (Array.getElem?_eq_some_iff.1 hit4).1
            clear hb3 HB3 HO3 hit3 HBW2
            obtain ⟨y, bl⟩ := p
            cases bl with
            | false =>
              have HF := Lib.hid (show txtV o a b c n = (⟨#[]⟩, 9) by
                rw [HT.out, ← HSE.out, HM.out.none HX.out h45 HPE.out rfl]; rfl)
              clear hit4
              go_wp2_with fail
              go_ret2
              exact ⟨by rw [HF.out]; rfl, HBW3.out⟩
            | true =>
              have HM2 := Lib.hid (HM.out.put HX.out h45 HPE.out rfl HPS.out)
              have hL5 : L.length ≤ 5 := by obtain ⟨_, _, _, h, _⟩ := HM.out; have := HS4.out; omega
              have D1 := Lib.hid (show (strs L).length + (strs [y]).length ≤ maxLen by simp [strs]; unfold maxLen; omega)
              have D2 := Lib.hid (show ((strs L).length + (strs [y]).length) * 16 ≤ 140737488355328 by simp [strs]; omega)
              have D3 := Lib.hid (show w.heap.size + 1 ≤ (W3.alloc (.cells #[.string y] 9)).heap.size by simp; omega)
              have HO5 := Lib.hid (show (W3.alloc (.cells #[.string y] 9)).ownsRow (w.heap.size + 1) 9 1 u5 (strs L).length (strs L) from by rw [strs_length]; exact own_keep (w' := W3.alloc (.cells #[.string y] 9)) HO4.out fun g _ hg => Below.heap_alloc _ _ _ hg)
              have hit5 : (W3.alloc (.cells #[.string y] 9)).heap[w3.heap.size]? = some (.stringIter sh (pos + 1)) := (Below.heap_alloc _ _ _ hltI3).trans hit4
              have HB5 := Lib.hid (HB4.out.alloc (by omega) (.cells #[.string y] 9))
              have HIT := Lib.hid hit5
              clear hit4 hit5 hL5
              go_wp2_with (at_builtin; refine wpList_append_slv _ rfl (.tmp 43) (.tmp 45) _ rfl (w.heap.size + 1) 9 i0 (.string ByteArray.empty) 16 Tryd.underlying24 hi0 hz0 hz1 hz2 rfl _ _ rfl HO5.out _ (.slice (some ⟨W3.heap.size, 0, none⟩) 1 1) (strs [y]) rfl (one_slv _ _) (strs_one _) D1.out D2.out D3.out ?_; intro v1 w5 hown1 hg1)
              have HB6 := Lib.hid (HB5.out.grown hg1 (by have := D3.out; omega) (fun r e => (HO5.out.lt r e).1))
              have hit6 : w5.heap[w3.heap.size]? = some (.stringIter sh (pos + 1)) := (hg1.block w3.heap.size (by simp; omega) (fun e => own_iter HO5.out HIT.out e.symm)).trans HIT.out
              have HO6 := Lib.hid (show w5.ownsRow (w.heap.size + 1) 9 1 v1 (L ++ [y]).length (strs (L ++ [y])) from by simpa [strs] using hown1)
              have hpos6 := iterPos_of hit6
              clear hown1 hg1
              go_roundw
              case rel => exact ⟨pos + 1, L ++ [y], by omega, hit6, HB6, HO6, HM2⟩
              case measure => rw [hpos6, hpos0]; omega
        · have hnx : ∀ ty, (Instr.next (.pointer (some ⟨w3.heap.size, 0, none⟩)) true ty).run Tryd.prog wr = _ := fun ty => Lib.run_next_end_at wr w3.heap.size sh pos ty hit hp
          obtain ⟨ws, hw1, hw2⟩ := HM.out.done (by rw [HSE.out]; omega)
          have HF := Lib.hid (show txtV o a b c n = (joinB L, 0) by rw [HT.out, ← HSE.out, hw1]; simp only [hw2]; rfl)
          have hfew : Few L 1000 1000 := by obtain ⟨_, _, _, h, h2⟩ := HM.out; exact ⟨by have := HS4.out; omega, fun x hx => by have := h2 x hx; omega⟩
          have hsl := SlV.of_own HO.out
          obtain ⟨A5, c5, hform⟩ := hsl.form
          rw [strs_length] at hform
          have HJ := Lib.hid (show Calls Tryd.prog 13 #[u5] wr fun e w' => e = .returned (.string (joinB L)) ∧ Below wr.heap.size wr w' by rw [hform] at hsl ⊢; exact join_any A5 c5 L.length L wr rfl hsl hfew)
          have HBW := Lib.hid (B3.out.trans (HB.out.mono (by omega)))
          clear hit HM hw1 hw2 hfew hsl hform HO HB
          go_wp2_with fail
          refine HJ.out.mono ?_
          rintro e w6 ⟨rfl, hb6⟩
          have HB6 := Lib.hid (HBW.out.trans (hb6.mono HBW.out.size))
          clear hb6
          go_wp2_with fail
          go_ret2
          exact ⟨by rw [HF.out]; rfl, HB6.out⟩
  · have HF := Lib.hid (show txtV o a b c n = (⟨#[]⟩, ck) by rw [HT.out, if_pos hz])
    have hzq : (ck == 0) = false := by simpa using hz
    clear hz
    go_wp2_with fail
    go_ret2
    exact ⟨by rw [HF.out]; rfl, B1.out⟩
end Go.Proofs.YtnplhpbbdgnmiaaDoor.Ln
