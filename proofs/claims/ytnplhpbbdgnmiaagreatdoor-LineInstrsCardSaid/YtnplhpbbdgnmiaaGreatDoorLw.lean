/-
  WALK of layer 9: the document's own Text.
-/
import Derived.Test.YtnplhpbbdgnmiaaGreatDoorLv
namespace Go.Proofs.YtnplhpbbdgnmiaaGreatDoor.Ln
open Go.RowKit
open Mem Go.Lib

def XAns (o a b c n : Int) (w : World) (e : Ending) (w' : World) : Prop := e = .returned (.tuple #[.string (txtV o a b c n).1, .int .i64 (txtV o a b c n).2]) ∧ Below w.heap.size w w'

theorem wrV_k (n : Int) : wrV (((107 : UInt8).toNat : Nat) : Int) n = (Si.textV (wrap64 (1 + n)), Si.isC n) := by unfold wrV; rw [if_pos (by decide)]
theorem wrV_n {x : UInt8} (h : x ≠ 107) (n : Int) : wrV ((x.toNat : Nat) : Int) n = (decB n, true) := by
  unfold wrV
  rw [if_neg fun e => h (UInt8.toNat_inj.1 (by have h2 : (107 : UInt8).toNat = 107 := rfl; omega))]

set_option maxRecDepth 100000 in
set_option maxHeartbeats 4000000 in
theorem rtext_any (o a b c n : Int) (ho : I64 o) (ha : I64 a) (hb : I64 b) (hc : I64 c) (hn : I64 n) (w : World) :
    Calls Tryz.prog 19 #[.agg #[.int .i64 o, .int .i64 a, .int .i64 b, .int .i64 c, .int .i64 n]] w (XAns o a b c n w) := by
  have HCK := Lib.hid (fun W => By.rcheck_any o a b c n W ho.1 ho.2)
  have HNM := Lib.hid (By.rname_any o ho.1 ho.2)
  have HSH := Lib.hid (By.rshape_any o ho.1 ho.2)
  have HOW := Lib.hid (By.rown_any o)
  have HOP := Lib.hid (By.roperand_any o a b c n)
  have H64 := Lib.hid (opd_i64 ha hb hc hn)
  have HC := Lib.hid hc
  have H0 := Lib.hid (By.Blk.at_ (w := w) 34 (By.insC o a b c n) rfl)
  have B0 := Lib.hid ((Below.refl w.heap.size w).alloc (Nat.le_refl _) (.cells (By.insC o a b c n) 34))
  have HST := Lib.hid (LSt.start o a b c n)
  obtain ⟨hs4, hk2⟩ := shape_facts o
  have HK2 := Lib.hid hk2
  have HS4 := Lib.hid hs4
  have HT := Lib.hid (show txtV o a b c n = if By.chV o a b c n ≠ 0 then (⟨#[]⟩, By.chV o a b c n) else if By.ownV o = false then (⟨#[]⟩, 8) else match wds a b c n 0 (By.shV o).data.toList with | some ws => (joinB (By.nmV o :: ws), 0) | none => (⟨#[]⟩, 9) from rfl)
  clear ho ha hb hc hn hs4 hk2
  go_enter Tryz.func19, Tryz.ntmps19
  go_wp2_with fail
  refine (HCK.out _).mono ?_
  rintro e w1 ⟨rfl, hb1⟩
  have hs1 : w.heap.size + 1 ≤ w1.heap.size := by simpa using hb1.size
  have K1 := Lib.hid (H0.out.below hb1 (by simp))
  have B1 := Lib.hid (B0.out.trans (hb1.mono (by simp)))
  clear hb1 H0 B0 HCK
  obtain ⟨ck, hck⟩ : ∃ ck, By.chV o a b c n = ck := ⟨_, rfl⟩
  rw [hck] at HT
  rw [hck]
  clear hck
  by_cases hz : ck = 0
  · subst hz
    have c0 : w1.cell? ⟨w.heap.size, 0, none⟩ = some (.int .i64 o) := by rw [K1.out.cell]; rfl
    have c3 : w1.cell? ⟨w.heap.size, 3, none⟩ = some (.int .i64 c) := by rw [K1.out.cell]; rfl
    go_wp2_with fail
    refine (HOW.out _).mono ?_
    rintro e w2 ⟨rfl, rfl⟩
    obtain ⟨ow, how⟩ : ∃ ow, By.ownV o = ow := ⟨_, rfl⟩
    rw [how] at HT
    rw [how]
    cases ow with
    | false =>
      have HF := Lib.hid (show txtV o a b c n = (⟨#[]⟩, 8) from HT.out)
      clear how
      go_wp2_with fail
      go_ret2
      exact ⟨by rw [HF.out]; rfl, B1.out⟩
    | true =>
      clear how
      go_wp2_with fail
      refine (HNM.out _).mono ?_
      rintro e w2 ⟨rfl, hb2⟩
      have hs2 : w1.heap.size ≤ w2.heap.size := hb2.size
      have K2 := Lib.hid (K1.out.below hb2 (by omega))
      have B2 := Lib.hid (B1.out.trans (hb2.mono B1.out.size))
      clear hb2 K1 B1 c0 c3 HNM
      have c0 : w2.cell? ⟨w.heap.size, 0, none⟩ = some (.int .i64 o) := by rw [K2.out.cell]; rfl
      go_wp2_with fail
      refine (HSH.out _).mono ?_
      rintro e w3 ⟨rfl, hb3⟩
      have hs3 : w2.heap.size ≤ w3.heap.size := hb3.size
      have K3 := Lib.hid (K2.out.below hb3 (by omega))
      have B3 := Lib.hid (B2.out.trans (hb3.mono B2.out.size))
      clear hb3 K2 B2 c0 HSH
      obtain ⟨sh, hsh⟩ : ∃ sh, By.shV o = sh := ⟨_, rfl⟩
      rw [hsh]
      rw [hsh] at HT HK2 HS4
      have HSE := Lib.hid hsh
      clear hsh
      have HWD := Lib.hid (show ∀ k t, LSt o a b c n k t → LSt o a b c n k t from fun _ _ h => h)
      clear HWD
      go_wp2_with fail
      go_loopw [5, 7] (fun sv i wr => ∃ (k : Nat) (t : ByteArray), k ≤ sh.size ∧ i = .int .i64 k ∧ sv = .string t ∧ Hid (LSt o a b c n k t) ∧ Hid (Below w3.heap.size w3 wr)) (fun _ i _ => sh.size - (intOf i).toNat)
      case atStart => exact ⟨0, _, by omega, rfl, rfl, HST, Lib.hid (Below.refl _ _)⟩
      case round =>
        obtain ⟨k, t, hk, rfl, rfl, HL, HB⟩ := hrel
        obtain ⟨wz, hwz⟩ : ∃ wz, wz = wr := ⟨_, rfl⟩
        subst hwz
        have hsz4 := HS4.out
        have hts : t.size ≤ 130 := by obtain ⟨_, _, _, h⟩ := HL.out; omega
        have KZ := Lib.hid (K3.out.below HB.out (by omega))
        have HBZ := Lib.hid (B3.out.trans (HB.out.mono B3.out.size))
        by_cases hlt : k < sh.size
        · have hks' : (k : Int) < (sh.size : Int) := by omega
          have hkl : k < sh.data.toList.length := by rw [len_list]; exact hlt
          have hx : sh.data.toList[k]? = some (sh[k]'hlt) := by rw [List.getElem?_eq_getElem hkl]; simp [ByteArray.getElem_eq_getElem_data]
          obtain ⟨x, hxe⟩ : ∃ x, (sh[k]'hlt) = x := ⟨_, rfl⟩
          rw [hxe] at hx
          have HX := Lib.hid (show (By.shV o).data.toList[k]? = some x by rw [HSE.out]; exact hx)
          by_cases h107 : x = 107
          · have hk2 := HK2.out k x hx h107
            subst h107
            have hop : By.opdV a b c n (k : Int) = c := by rw [hk2]; rfl
            have hq : (((sh[k]'hlt).toNat : Int) == 107) = true := by rw [hxe]; rfl
            have c3 : wz.cell? ⟨w.heap.size, 3, none⟩ = some (.int .i64 c) := by rw [KZ.out.cell]; rfl
            obtain ⟨ic, hic⟩ : ∃ ic, Si.isC c = ic := ⟨_, rfl⟩
            have HIS := Lib.hid (Si.ris_any c)
            rw [hic] at HIS
            have hlz : w.heap.size < wz.heap.size := KZ.out.lt
            cases ic with
            | false =>
              have HF := Lib.hid (show txtV o a b c n = (⟨#[]⟩, 9) by
                rw [HT.out, ← HSE.out, HL.out.none HX.out (by decide) (by rw [hop, wrV_k]; exact hic)]; rfl)
              clear hx hxe hk2 hop hic
              go_wp2_with fail
              refine (HIS.out _).mono ?_
              rintro e w5 ⟨rfl, rfl⟩
              go_wp2_with fail
              go_ret2
              exact ⟨by rw [HF.out]; rfl, HBZ.out⟩
            | true =>
              have hsz := text_size (wrap64 (1 + c))
              have HL2 := Lib.hid (show LSt o a b c n (k + 1) (t ++ ⟨#[32]⟩ ++ Si.textV (wrap64 (1 + c))) by
                have h1 := HL.out.put HX.out (by decide) (by rw [hop, wrV_k]; exact hic) (by rw [hop, wrV_k]; show (Si.textV (wrap64 (1 + c))).size ≤ 20; omega)
                rw [hop, wrV_k] at h1
                exact h1)
              have HTX := Lib.hid (Si.rtext_any (wrap64 (1 + c)) (wr_i64 _).1 (wr_i64 _).2)
              clear hx hxe hk2 hop hic
              generalize Si.textV (wrap64 (1 + c)) = y at HL2 HTX hsz
              go_wp2_with fail
              refine (HIS.out _).mono ?_
              rintro e w5 ⟨rfl, rfl⟩
              go_wp2_with fail
              refine (HTX.out _).mono ?_
              rintro e w6 ⟨rfl, hb6⟩
              have HB6 := Lib.hid (HB.out.trans (hb6.mono HB.out.size))
              clear hb6
              go_wp2_with fail
              go_roundw
              case rel => exact ⟨k + 1, _, by omega, by go_num, rfl, HL2, HB6⟩
              case measure => simp [intOf]; omega
          · have hq : (((sh[k]'hlt).toNat : Int) == 107) = false := by
              rw [hxe]
              exact eq_false fun e => h107 (UInt8.toNat_inj.1 (by have h2 : (107 : UInt8).toNat = 107 := rfl; omega))
            by_cases h45 : x = 45
            · subst h45
              have hq2 : (((sh[k]'hlt).toNat : Int) == 45) = true := by rw [hxe]; rfl
              have HL2 := Lib.hid (HL.out.skip HX.out)
              clear hx hxe h107
              go_wp2_with fail
              go_roundw
              case rel => exact ⟨k + 1, _, by omega, by go_num, rfl, HL2, HB⟩
              case measure => simp [intOf]; omega
            · have hq2 : (((sh[k]'hlt).toNat : Int) == 45) = false := by
                rw [hxe]
                exact eq_false fun e => h45 (UInt8.toNat_inj.1 (by have h2 : (45 : UInt8).toNat = 45 := rfl; omega))
              have hq3 : (((sh[k]'hlt).toNat : Int) != 45) = true := by unfold bne; rw [hq2]; rfl
              have hi := H64.out (k : Int)
              have hsz := dec_size hi
              have HL2 := Lib.hid (show LSt o a b c n (k + 1) (t ++ ⟨#[32]⟩ ++ decB (By.opdV a b c n (k : Int))) by
                have h1 := HL.out.put HX.out h45 (by rw [wrV_n h107]) (by rw [wrV_n h107]; exact hsz)
                rw [wrV_n h107] at h1
                exact h1)
              have HOK := Lib.hid (HOP.out (k : Int))
              have HDG := Lib.hid (fun W => rdigits_any (By.opdV a b c n (k : Int)) hi.1 hi.2 W)
              clear hx hxe h107 h45 hi
              generalize By.opdV a b c n (k : Int) = v at HOK HDG HL2 hsz
              generalize decB v = y at HDG HL2 hsz
              have c0 : wz.cell? ⟨w.heap.size, 0, none⟩ = some (.int .i64 o) := by rw [KZ.out.cell]; rfl
              have c1 : wz.cell? ⟨w.heap.size, 1, none⟩ = some (.int .i64 a) := by rw [KZ.out.cell]; rfl
              have c2 : wz.cell? ⟨w.heap.size, 2, none⟩ = some (.int .i64 b) := by rw [KZ.out.cell]; rfl
              have c3 : wz.cell? ⟨w.heap.size, 3, none⟩ = some (.int .i64 c) := by rw [KZ.out.cell]; rfl
              have c4 : wz.cell? ⟨w.heap.size, 4, none⟩ = some (.int .i64 n) := by rw [KZ.out.cell]; rfl
              have hlz : w.heap.size < wz.heap.size := KZ.out.lt
              go_wp2_with fail
              refine (HOK.out _).mono ?_
              rintro e w5 ⟨rfl, hb5⟩
              have HB5 := Lib.hid (HB.out.trans (hb5.mono HB.out.size))
              clear hb5
              go_wp2_with fail
              refine (HDG.out _).mono ?_
              rintro e w6 ⟨rfl, hb6⟩
              have HB6 := Lib.hid (HB5.out.trans (hb6.mono HB5.out.size))
              clear hb6
              go_wp2_with fail
              go_roundw
              case rel => exact ⟨k + 1, _, by omega, by go_num, rfl, HL2, HB6⟩
              case measure => simp [intOf]; omega
        · have hks' : ¬ (k : Int) < (sh.size : Int) := by omega
          have HF := Lib.hid (show txtV o a b c n = (t, 0) by
            obtain ⟨ws, h1, h2⟩ := HL.out.done (by rw [HSE.out]; omega)
            rw [HT.out, ← HSE.out, h1]
            simp only [h2]; rfl)
          go_wp2_with fail
          go_ret2
          exact ⟨by rw [HF.out]; rfl, HBZ.out⟩
  · have HF := Lib.hid (show txtV o a b c n = (⟨#[]⟩, ck) by rw [HT.out, if_pos hz])
    have hzq : (ck == 0) = false := by simpa using hz
    clear hz
    go_wp2_with fail
    go_ret2
    exact ⟨by rw [HF.out]; rfl, B1.out⟩
end Go.Proofs.YtnplhpbbdgnmiaaGreatDoor.Ln
