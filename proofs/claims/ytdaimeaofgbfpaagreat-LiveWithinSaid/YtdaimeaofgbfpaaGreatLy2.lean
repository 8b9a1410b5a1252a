/-
 Ly2
-/
import Derived.Test.YtdaimeaofgbfpaaGreatZa2
import Derived.Test.YtdaimeaofgbfpaaGreatLx2
import Derived.Test.YtdaimeaofgbfpaaGreatTq2
import Derived.Test.YtdaimeaofgbfpaaGreatTa2
import Derived.Deep.DeepCutAuto
set_option linter.unusedSimpArgs false
set_option linter.unusedVariables false
namespace Go.Proofs.YtdaimeaofgbfpaaGreat.Bo
open Go.RowKit Go.Maps
open Mem Rf
theorem FnI.on {w w' : World} {F : Fc} {x : By.Fn} (h : FnI w F x) (hb : Below w.heap.size w w') : FnI w' F x := ⟨h.fw.on hb, h.hk, h.hpd, h.hns, h.hf, h.ht, h.bd, h.wf⟩
theorem DtI.on {w w' : World} {D : Dc} {ws : List Int} {rs : List By.Rl} (h : DtI w D ws rs) (hb : Below w.heap.size w w') : DtI w' D ws rs := ⟨h.hw.on hb, h.hl, h.hr.on hb, h.bd⟩
theorem ObI.on {w w' : World} {o : Oj} {xs : Nat → By.Fn} {ws : Nat → List Int} {rs : Nat → List By.Rl} (h : ObI w o xs ws rs) (hb : Below w.heap.size w w') : ObI w' o xs ws rs := ⟨h.mem.on hb, h.kinds, fun k hk => (h.fns k hk).on hb, fun k hk => (h.dats k hk).on hb⟩
theorem OjsI.on {w w' : World} {A : Option Addr} {n c : Nat} {os : List Oj} {xs : Nat → Nat → By.Fn} {ws : Nat → Nat → List Int} {rs : Nat → Nat → List By.Rl} (h : OjsI w A n c os xs ws rs) (hb : Below w.heap.size w w') : OjsI w' A n c os xs ws rs := ⟨h.mem.on hb, fun i hi => (h.each i hi).on hb⟩
theorem blk2w {W : World} {t u : TypeId} {a c : Array Value} : Blk ((W.alloc (.cells a t)).alloc (.cells c u)) W.heap.size t a ∧ Blk ((W.alloc (.cells a t)).alloc (.cells c u)) (W.heap.size + 1) u c := by
 refine ⟨(Blk.new _ _ _).alloc _, ?_⟩
 have := Blk.new (W.alloc (.cells a t)) u c
 rwa [World.size_alloc] at this
set_option maxRecDepth 100000 in
set_option maxHeartbeats 8000000 in
theorem within26_any (w : World) (A : Option Addr) (n c : Nat) (os : List Oj) (xs : Nat → Nat → By.Fn) (ws : Nat → Nat → List Int) (rs : Nat → Nat → List By.Rl) (h : OjsI w A n c os xs ws rs) :
  Calls Tryz.prog 4 #[.slice A n c] w fun e w' => e = .returned (.bool true) ∧ Below w.heap.size w w' := by
 have HFEW := Hd (fun W (hb : Below w.heap.size w W) => few_in (h.on hb))
 clear h
 go_enter Tryz.func4, Tryz.ntmps4
 go_wp2_with (go_at_call 9; refine (HFEW.out w (Below.refl _ _)).mono ?_; rintro e w2 ⟨⟨b, rfl, hj⟩, hb2⟩; have HJ := Hd hj; have HB2 := Hd hb2; clear hb2 hj; cases b)
 ·go_wp2_with (go_at_call 10; refine (known26_any _).mono ?_; rintro e w7 ⟨rfl, hb7⟩; have HB7 := Hd hb7; clear hb7)
  refine bodyPost_ret (results_tmp rfl _ _ _) rfl ?_
  exact ⟨rfl, to_ HB2.out HB7.out⟩
 ·have HJ2 := Hd (HJ.out (by trivial))
  clear HJ
  go_wp2_with (go_at_call 11; refine (bind_in (HJ2.out.on HB2.out) _).mono ?_; rintro e w3 ⟨P, r1, r2, r3, rfl, hpl, hb3, hent⟩; have HPL := Hd hpl; have HB3 := Hd hb3; have HEN := Hd hent; clear hpl hb3 hent; obtain ⟨fA, fn, fc, fs, dA, dn, dc, ds, en, cs⟩ := P; unfold pgV; dsimp only at HEN ⊢; obtain ⟨W4, hW4⟩ : ∃ x, (w3.alloc (.cells #[.slice fA fn fc, .slice dA dn dc, .int .i64 en] 29)).alloc (.cells #[.int .i64 r1, .int .i64 r2, .int .i64 r3] 32) = x := ⟨_, rfl⟩; have HW4 := Hd (show Below w3.heap.size w3 W4 from by rw [← hW4]; exact to_ (alloc_ _ _) (alloc_ _ _)); have HPX := Hd (show Blk W4 w3.heap.size 29 #[.slice fA fn fc, .slice dA dn dc, .int .i64 en] from by rw [← hW4]; exact blk2w.1); have HRX := Hd (show Blk W4 (w3.heap.size + 1) 32 #[.int .i64 r1, .int .i64 r2, .int .i64 r3] from by rw [← hW4]; exact blk2w.2); obtain ⟨p0, p1, p2⟩ := q3Z HPX.out; have q0 : W4.cell? ⟨w3.heap.size + 1, 0, none⟩ = some (.int .i64 r1) := HRX.out.cell 0; have HBW4 := Hd (show Below w.heap.size w W4 from to_ HB2.out (to_ HB3.out HW4.out)); clear HJ2; rcases Decidable.em (r1 = 0) with rfl | hr)
  ·skip
   have HE2 := Hd (HEN.out (by first | rfl | trivial))
   clear HEN
   go_wp2_with (go_at_call 13; (refine (few25_any W4 ⟨fA, fn, fc, fs, dA, dn, dc, ds, en, cs⟩ (HPL.out.on HW4.out).fr (HPL.out.on HW4.out).dr).mono ?_; clear hW4; rintro e w4 ⟨b2, rfl, hb4, hfe⟩; have HB4 := Hd hb4; have HFE := Hd hfe; have p0 := cell_on p0 hb4; have p1 := cell_on p1 hb4; have p2 := cell_on p2 hb4; clear hb4 hfe; cases b2))
   ·go_wp2_with (go_at_call 10; refine (known26_any _).mono ?_; rintro e w7 ⟨rfl, hb7⟩; have HB7 := Hd hb7; clear hb7)
    refine bodyPost_ret (results_tmp rfl _ _ _) rfl ?_
    exact ⟨rfl, to_ HBW4.out (to_ HB4.out HB7.out)⟩
   ·have HFE9 := Hd (HFE.out (by trivial))
    clear HFE
    have HRP := Hd (fun W (hb : Below w4.heap.size w4 W) => ((HPL.out.on HW4.out).rd HFE9.out).on (to_ HB4.out hb))
    have HBW := Hd (show Below w.heap.size w w4 from to_ HBW4.out HB4.out)
    have HN24 := Hd (show fn ≤ 24 from HFE9.out.2.2.1)
    obtain ⟨hen0, hen1⟩ := HE2.out
    obtain ⟨z, rfl⟩ := Int.eq_ofNat_of_zero_le hen0
    have hzn : z < fn := by omega
    have HLV := Hd (fun i => @taken_live ⟨fA, fn, fc, fs, dA, dn, dc, ds, (z : Int), cs⟩ i)
    have HCV := Hd (fun i => @called_live ⟨fA, fn, fc, fs, dA, dn, dc, ds, (z : Int), cs⟩ i)
    have HEI := Hd (fun i x => @edge_in ⟨fA, fn, fc, fs, dA, dn, dc, ds, (z : Int), cs⟩ i x)
    have HEC := Hd (fun i k => @edge_called ⟨fA, fn, fc, fs, dA, dn, dc, ds, (z : Int), cs⟩ i k)
    have HZL := Hd (@entry_live ⟨fA, fn, fc, fs, dA, dn, dc, ds, (z : Int), cs⟩ z rfl hzn)
    have HZC := Hd (@entry_called ⟨fA, fn, fc, fs, dA, dn, dc, ds, (z : Int), cs⟩ z rfl hzn)
    have HEL := Hd (fun i => edgL_len ⟨fA, fn, fc, fs, dA, dn, dc, ds, (z : Int), cs⟩ i)
    have HL1 := Hd (fun W (hb : Below w4.heap.size w4 W) => live_any W ⟨fA, fn, fc, fs, dA, dn, dc, ds, (z : Int), cs⟩ (HRP.out W hb))
    have HL2 := Hd (fun W (hb : Below w4.heap.size w4 W) => taken_any W ⟨fA, fn, fc, fs, dA, dn, dc, ds, (z : Int), cs⟩ (HRP.out W hb))
    have HL3 := Hd (fun W (hb : Below w4.heap.size w4 W) => called_any W ⟨fA, fn, fc, fs, dA, dn, dc, ds, (z : Int), cs⟩ (HRP.out W hb))
    have HL4 := Hd (fun W (hb : Below w4.heap.size w4 W) => (show Calls Tryz.prog 22 #[pgV ⟨fA, fn, fc, fs, dA, dn, dc, ds, (z : Int), cs⟩] W (RowsA W fn ((List.range fn).map (edgL ⟨fA, fn, fc, fs, dA, dn, dc, ds, (z : Int), cs⟩))) from graph_any W ⟨fA, fn, fc, fs, dA, dn, dc, ds, (z : Int), cs⟩ (HRP.out W hb)))
    unfold pgV at HL1 HL2 HL3 HL4
    dsimp only at HL1 HL2 HL3 HL4 HLV HCV HEI HEC HEL
    generalize liveB ⟨fA, fn, fc, fs, dA, dn, dc, ds, (z : Int), cs⟩ = a at HL1 HLV HCV HEI HZL
    generalize takenB ⟨fA, fn, fc, fs, dA, dn, dc, ds, (z : Int), cs⟩ = b at HL2 HLV
    generalize calledB ⟨fA, fn, fc, fs, dA, dn, dc, ds, (z : Int), cs⟩ = c9 at HL3 HCV HEC HZC
    generalize edgL ⟨fA, fn, fc, fs, dA, dn, dc, ds, (z : Int), cs⟩ = E at HL4 HEI HEC HEL
    have hN := HN24.out
    go_wp2_with (first
     | (go_at_call 15; refine (HL1.out _ (Below.refl _ _)).mono ?_; rintro e wu1 ⟨A1, c1, rfl, hbl, hb, _⟩; have HU1 := Hd hb; have HA := Hd hbl; have p0 := cell_on p0 hb; have p1 := cell_on p1 hb; have p2 := cell_on p2 hb; clear hb hbl)
     | (go_at_call 17; refine (HL2.out _ HU1.out).mono ?_; rintro e wu2 ⟨A2, c2, rfl, hbl, hb, _⟩; have HU2 := Hd hb; have HT := Hd hbl; have p0 := cell_on p0 hb; have p1 := cell_on p1 hb; have p2 := cell_on p2 hb; clear hb hbl)
     | (go_at_call 19; refine (HL3.out _ (to_ HU1.out HU2.out)).mono ?_; rintro e wu3 ⟨A3, c3, rfl, hbl, hb, _⟩; have HU3 := Hd hb; have HC := Hd hbl; have p0 := cell_on p0 hb; have p1 := cell_on p1 hb; have p2 := cell_on p2 hb; clear hb hbl)
     | (go_at_call 22; refine (HL4.out _ (to_ (to_ HU1.out HU2.out) HU3.out)).mono ?_; rintro e wu4 ⟨rb, base, rfl, hg, hrb, hbs, hb⟩; have HU4 := Hd hb; have HG := Hd hg; have HRB := Hd hbs; have p0 := cell_on p0 hb; have p1 := cell_on p1 hb; have p2 := cell_on p2 hb; have HAR := Hd (fun i (hi : i < fn) => ((HA.out.on (to_ (to_ HU2.out HU3.out) hb)).at_ hi)); have HTR := Hd (fun i (hi : i < fn) => ((HT.out.on (to_ HU3.out hb)).at_ hi)); have HCR := Hd (fun i (hi : i < fn) => ((HC.out.on hb).at_ hi)); clear hb hg hrb hbs; obtain ⟨ad1, hA1, _, y1⟩ := HAR.out z hzn; obtain ⟨ad3, hA3, _, y3⟩ := HCR.out z hzn; rw [blist_at hzn, HZL.out] at y1; rw [blist_at hzn, HZC.out] at y3; subst hA1 hA3))
    have HY1 := Hd y1
    have HY3 := Hd y3
    have HR0 := Hd (fun k (hk : k < fn) => rows_read HG.out HRB.out (Nat.le_refl _) (X := wu4) (fun g _ _ => rfl) hk)
    have HBU := Hd (to_ HBW.out (to_ (to_ HU1.out HU2.out) (to_ HU3.out HU4.out)))
    clear y1 y3 p0 p1 p2 q0 hen0 hen1
    go_loopw [10] (fun i wr => ∃ k : Nat, k ≤ fn ∧ i = .int .i64 (k : Int) ∧ wu4 = wr) (fun i _ => fn - (intOf i).toNat)
    case atStart => exact ⟨0, Nat.zero_le _, rfl, rfl⟩
    case round =>
     obtain ⟨k, hk, rfl, rfl⟩ := hrel
     by_cases hlt : k < fn
     ·have hI : (k : Int) < (fn : Int) := by omega
      have hk0 : (0 : Int) ≤ (k : Int) := by omega
      obtain ⟨_, e1, _, y1⟩ := HAR.out k hlt
      cases e1
      obtain ⟨ad2, e2, _, y2⟩ := HTR.out k hlt
      subst e2
      obtain ⟨_, e3, _, y3⟩ := HCR.out k hlt
      cases e3
      obtain ⟨RA, RC, yr, hel⟩ := HR0.out k hlt
      rw [blist_at hlt] at y1 y2 y3
      have h1 := HLV.out k hlt
      have h2 := HCV.out k
      have h3 : 0 < (E k).length → a k = true := fun h => by
       obtain ⟨x, hx⟩ := List.exists_mem_of_length_pos h
       exact (HEI.out k x hx).1
      have HEL9 := Hd hel
      have HIN := Hd (fun j (hj : j < (E k).length) => show ∃ v : Nat, v < fn ∧ (E k).getD j 0 = (v : Int) ∧ a v = true ∧ (c9 k = true → c9 v = true) from by
       have hm : (E k).getD j 0 ∈ E k := by rw [List.getD_eq_getElem?_getD, List.getElem?_eq_getElem hj]; exact List.getElem_mem _
       obtain ⟨_, v, h4, h5, h6⟩ := HEI.out k _ hm
       exact ⟨v, h4, h5, h6, fun hc => HEC.out k v hc hlt h4 (h5 ▸ hm)⟩)
      obtain ⟨m, hm⟩ : ∃ m, (E k).length = m := ⟨_, rfl⟩
      rw [hm] at yr h3 HEL9 HIN
      have hm24 : m ≤ fn := hm ▸ HEL.out k
      obtain ⟨ak, hak⟩ : ∃ x, a k = x := ⟨_, rfl⟩
      obtain ⟨bk, hbk⟩ : ∃ x, b k = x := ⟨_, rfl⟩
      obtain ⟨ck, hck⟩ : ∃ x, c9 k = x := ⟨_, rfl⟩
      rw [hak] at y1 h1 h2 h3
      rw [hbk] at y2 h1
      rw [hck] at y3 h2 HIN
      have HY3k := Hd y3
      clear hm hak hbk hck hel
      have hcase : (ak = true) ∨ (ak = false ∧ bk = false ∧ ck = false ∧ m = 0) := by
       cases ak
       ·right
        refine ⟨rfl, ?_, ?_, ?_⟩
        ·cases bk
         ·rfl
         ·exact absurd (h1 rfl) (by simp)
        ·cases ck
         ·rfl
         ·exact absurd (h2 rfl) (by simp)
        ·rcases Nat.eq_zero_or_pos m with h | h
         ·exact h
         ·exact absurd (h3 h) (by simp)
       ·exact .inl rfl
      clear h1 h2 h3
      have hmI : (0 : Int) ≤ (m : Int) := by omega
      go_upto_region 16 with fail
      go_cut [115] (fun s wx => s = .bool false ∧ wu4 = wx)
      case first =>
       rcases hcase with rfl | ⟨rfl, rfl, rfl, rfl⟩
       ·by_cases hmp : 0 < (m : Int) <;> cases bk <;> cases ck <;>
        ·go_wp2_with fail
         go_meet
         case rel => exact ⟨rfl, rfl⟩
       ·go_wp2_with fail
        go_meet
        case rel => exact ⟨rfl, rfl⟩
      case rest =>
       obtain ⟨rfl, rfl⟩ := hcut
       clear hcase y1 y2
       go_wp2_with fail
       go_loopw [11] (fun i wr => ∃ j : Nat, j ≤ m ∧ i = .int .i64 (j : Int) ∧ wu4 = wr) (fun i _ => m - (intOf i).toNat)
       case atStart => exact ⟨0, Nat.zero_le _, rfl, rfl⟩
       case round =>
        obtain ⟨j, hj, rfl, rfl⟩ := hrel
        by_cases hjl : j < m
        ·have hjI : (j : Int) < (m : Int) := by omega
         have hj0 : (0 : Int) ≤ (j : Int) := by omega
         obtain ⟨ae, rfl, _, y5⟩ := HEL9.out j hjl
         obtain ⟨v, hv, e5, hav, hcv⟩ := HIN.out j hjl
         rw [e5] at y5
         have hvI : (v : Int) < (fn : Int) := by omega
         have hv0 : (0 : Int) ≤ (v : Int) := by omega
         obtain ⟨_, e6, _, y6⟩ := HAR.out v hv
         cases e6
         obtain ⟨_, e7, _, y7⟩ := HCR.out v hv
         cases e7
         rw [blist_at hv] at y6 y7
         rw [hav] at y6
         clear e5 hav
         cases ck
         rotate_left
         focus
          rw [hcv rfl] at y7
         rotate_left
         all_goals
          clear hcv
          go_wp2_with fail
          go_roundw
          case rel => exact ⟨j + 1, by omega, by go_num, by first | rfl | trivial⟩
          case measure => simp [intOf]; omega
        ·obtain rfl : j = m := by omega
         go_wp2_with fail
         go_roundw
         case rel => exact ⟨k + 1, by omega, by go_num, by first | rfl | trivial⟩
         case measure => simp [intOf]; omega
     ·obtain rfl : k = fn := by omega
      go_wp2_with (go_at_call 10; refine (known26_any _).mono ?_; rintro e w7 ⟨rfl, hb7⟩; have HB7 := Hd hb7; clear hb7)
      refine bodyPost_ret (results_tmp rfl _ _ _) rfl ?_
      exact ⟨rfl, to_ HBU.out HB7.out⟩
  ·go_wp2_with (go_at_call 10; refine (known26_any _).mono ?_; rintro e w7 ⟨rfl, hb7⟩; have HB7 := Hd hb7; clear hb7)
   refine bodyPost_ret (results_tmp rfl _ _ _) rfl ?_
   exact ⟨rfl, to_ HBW4.out HB7.out⟩
end Go.Proofs.YtdaimeaofgbfpaaGreat.Bo
