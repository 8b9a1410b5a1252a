/-
  WALK of layer 19's document: symbol.
-/
import Derived.Test.YtbcabomblfehlabQb
namespace Go.Proofs.Ytbcabomblfehlab.Bo
open Go.RowKit
open Mem Rf
set_option linter.unusedSimpArgs false
set_option linter.unusedVariables false

theorem fst5 (E : Nat → Int) : fstE E 5 = if E 0 = 0 then (if E 1 = 0 then (if E 2 = 0 then (if E 3 = 0 then E 4 else E 3) else E 2) else E 1) else E 0 := by
  unfold fstE
  rw [show List.range 5 = [0, 1, 2, 3, 4] from rfl]
  simp only [List.find?]
  by_cases h0 : E 0 = 0
  · by_cases h1 : E 1 = 0
    · by_cases h2 : E 2 = 0
      · by_cases h3 : E 3 = 0
        · by_cases h4 : E 4 = 0
          · simp [h0, h1, h2, h3, h4]
          · simp [h0, h1, h2, h3, h4, bne_iff_ne.2 h4]
        · simp [h0, h1, h2, h3, bne_iff_ne.2 h3]
      · simp [h0, h1, h2, bne_iff_ne.2 h2]
    · simp [h0, h1, bne_iff_ne.2 h1]
  · simp [h0, bne_iff_ne.2 h0]
theorem symE_is (o : Oj) (ne : ByteArray → Int) (ks kt : Int → Bool) (i : Nat) : symE o ne ks kt i = if ne (syAt o.l i).1 = 0 then (if kindE ks kt (syAt o.l i) = 0 then (if newT o.l i = true then 12 else (if defE o i = 0 then locE (syAt o.l i) else defE o i)) else kindE ks kt (syAt o.l i)) else ne (syAt o.l i).1 := by
  unfold symE
  rw [fst5]
  show (if ne (syAt o.l i).1 = 0 then (if kindE ks kt (syAt o.l i) = 0 then (if (if newT o.l i = true then (12 : Int) else 0) = 0 then (if defE o i = 0 then locE (syAt o.l i) else defE o i) else (if newT o.l i = true then 12 else 0)) else kindE ks kt (syAt o.l i)) else ne (syAt o.l i).1) = _
  cases newT o.l i <;> simp
theorem defn_le (l : List Sy) (s : Int) (j : Nat) : defn l s j ≤ j := by
  unfold defn
  exact Nat.le_trans (List.length_filter_le _ _) (by simp)
theorem newT_yes {l : List Sy} {i k : Nat} (hk : k < i) (h1 : ∀ m, m < k → nmT (syAt l i).1 (syAt l m) = false) (h2 : nmT (syAt l i).1 (syAt l k) = true) : newT l i = true := by
  unfold newT; rw [find_at hk h1 h2]; rfl
theorem newT_no {l : List Sy} {i : Nat} (h1 : ∀ m, m < i → nmT (syAt l i).1 (syAt l m) = false) : newT l i = false := by
  unfold newT; rw [find_no h1]; rfl
theorem upto_more {p : Nat → Prop} {k : Nat} (h : ∀ m, m < k → p m) (hk : p k) : ∀ m, m < k + 1 → p m := fun m hm => by
  rcases Nat.lt_succ_iff_lt_or_eq.1 hm with h' | h'
  · exact h m h'
  · rw [h']; exact hk

section
variable {w : World} {o : Oj} {ne : ByteArray → Int} {ks kt : Int → Bool} {vf rf de : Nat → Int}
set_option maxRecDepth 100000 in
set_option maxHeartbeats 8000000 in
theorem dsymbol (h : Dx w o ne ks kt vf rf de) (i : Nat) (hi : i < o.n) :
    Calls Try.prog 48 #[ojV o, .int .i64 (i : Int)] w fun e w' => e = .returned (.int .i64 (symE o ne ks kt i)) ∧ Below w.heap.size w w' := by
  have hf := h.few
  have HNM := Lib.hid (fun W (hb : Below w.heap.size w W) => h.name W hb i hi)
  have HIS := Lib.hid (fun W (hb : Below w.heap.size w W) => h.is W hb (syAt o.l i).2.2.2.1)
  have HTX := Lib.hid (fun W (hb : Below w.heap.size w W) => h.text W hb i hi)
  have HS := Lib.hid (fun W (hb : Below w.heap.size w W) k (hk : k < o.n) => (h.mem.on hb).sy.at_ hk)
  have HV := Lib.hid (symE_is o ne ks kt i)
  have HNY := Lib.hid (fun k hk h1 h2 => newT_yes (l := o.l) (i := i) (k := k) hk h1 h2)
  have HNN := Lib.hid (fun h1 => newT_no (l := o.l) (i := i) h1)
  clear h
  obtain ⟨A, n, c, l, fA, fn, fc, fl, dA, dn, dc, dl⟩ := o
  unfold defE kindE locE at HV
  unfold ojV
  dsimp only at HNM HIS HTX HS HV HNY HNN hf hi ⊢
  obtain ⟨v, hv⟩ : ∃ v, symE ⟨A, n, c, l, fA, fn, fc, fl, dA, dn, dc, dl⟩ ne ks kt i = v := ⟨_, rfl⟩
  rw [hv] at HV ⊢
  clear hv
  obtain ⟨ad, rfl, hbk, s0, s1, s2, s3, s4⟩ := HS.out w (Below.refl _ _) i hi
  have hsz := World.block_lt_of_cell? w _ s0
  obtain ⟨⟨y0, y1, y2, y3, y4⟩, hy⟩ : ∃ y, syAt l i = y := ⟨_, rfl⟩
  rw [hy] at HNM HIS HTX HV s0 s1 s2 s3 s4 HNY HNN
  dsimp only at HNM HIS HTX HV s0 s1 s2 s3 s4 HNY HNN
  clear hy
  obtain ⟨q, hq⟩ : ∃ q, ne y0 = q := ⟨_, rfl⟩
  rw [hq] at HNM HV
  obtain ⟨bs, hbs⟩ : ∃ b, ks y3 = b := ⟨_, rfl⟩
  rw [hbs] at HIS HV
  obtain ⟨bt, hbt⟩ : ∃ b, kt y3 = b := ⟨_, rfl⟩
  rw [hbt] at HTX HV
  obtain ⟨nt, hnt⟩ : ∃ b, newT l i = b := ⟨_, rfl⟩
  rw [hnt] at HV HNY HNN
  clear hq hbs hbt hnt
  have hiI : (i : Int) < (n : Int) := by omega
  have hi0 : (0 : Int) ≤ (i : Int) := by omega
  have hn1 : n ≤ 1000 := hf.1
  have hf1 : fn ≤ 1000 := hf.2.1
  have hd1 : dn ≤ 1000 := hf.2.2
  by_cases q0 : q = 0
  · have q0' : (q != 0) = false := by simp [q0]
    by_cases k1 : y2 = 1
    · have k1' : (y2 == 1) = true := by simp [k1]
      have k1n : (y2 != 1) = false := by simp [k1]
      have k2' : (y2 == 2) = false := by simp [k1]
      have k2n : (y2 != 2) = true := by simp [k1]
      cases bs with
      | false =>
        have HR := Lib.hid (show v = 8 by rw [HV.out, if_pos q0, if_neg (by simp [k1])]; simp [k1])
        clear q0 k1
        go_enter Try.func48, Try.ntmps48
        go_wp2_with (go_at_call 63; refine (HNM.out _ (to_ (alloc_ w _) (alloc_ _ _))).mono ?_; rintro e w2 ⟨rfl, b2⟩; obtain ⟨hb2, c0, c1, c2, s0, s1, s2, s3, s4⟩ := bx35 b2; have hsz2 : w.heap.size + 1 < w2.heap.size := World.block_lt_of_cell? w2 _ s0; have HB2 := Lib.hid hb2; clear b2 hb2; go_wp2_with (go_at_call 64; refine (HIS.out _ HB2.out).mono ?_; rintro e w3 ⟨rfl, b3⟩; replace c0 := cell_on c0 b3; replace c1 := cell_on c1 b3; replace c2 := cell_on c2 b3; replace s0 := cell_on s0 b3; replace s1 := cell_on s1 b3; replace s2 := cell_on s2 b3; replace s3 := cell_on s3 b3; replace s4 := cell_on s4 b3; have HB3 := Lib.hid (to_ HB2.out b3); clear b3))
        go_ret
        exact ⟨by rw [HR.out]; rfl, HB3.out⟩
      | true =>
        have HV2 := Lib.hid (show v = if nt = true then 12 else (if (if y4 = -1 then (0 : Int) else if y4 = (defn l y2 i : Int) ∧ y4 < (fn : Int) then 0 else 9) = 0 then (if y1 = true ∧ y4 = -1 then 13 else 0) else (if y4 = -1 then (0 : Int) else if y4 = (defn l y2 i : Int) ∧ y4 < (fn : Int) then 0 else 9)) by
          rw [HV.out, if_pos q0, if_pos (by simp [k1])]; unfold mostO; rw [if_pos k1])
        clear q0 k1
        go_enter Try.func48, Try.ntmps48
        go_wp2_with (go_at_call 63; refine (HNM.out _ (to_ (alloc_ w _) (alloc_ _ _))).mono ?_; rintro e w2 ⟨rfl, b2⟩; obtain ⟨hb2, c0, c1, c2, s0, s1, s2, s3, s4⟩ := bx35 b2; have hsz2 : w.heap.size + 1 < w2.heap.size := World.block_lt_of_cell? w2 _ s0; have HB2 := Lib.hid hb2; clear b2 hb2; go_wp2_with (go_at_call 64; refine (HIS.out _ HB2.out).mono ?_; rintro e w3 ⟨rfl, b3⟩; replace c0 := cell_on c0 b3; replace c1 := cell_on c1 b3; replace c2 := cell_on c2 b3; replace s0 := cell_on s0 b3; replace s1 := cell_on s1 b3; replace s2 := cell_on s2 b3; replace s3 := cell_on s3 b3; replace s4 := cell_on s4 b3; have HB3 := Lib.hid (to_ HB2.out b3); have HCL := Lib.hid (fun W (hb : Below w3.heap.size w3 W) => (⟨cell_on c0 hb, cell_on c1 hb, cell_on c2 hb, cell_on s0 hb, cell_on s1 hb, cell_on s2 hb, cell_on s3 hb, cell_on s4 hb⟩ : W.cell? ⟨w.heap.size, 0, none⟩ = _ ∧ W.cell? ⟨w.heap.size, 1, none⟩ = _ ∧ W.cell? ⟨w.heap.size, 2, none⟩ = _ ∧ W.cell? ⟨w.heap.size + 1, 0, none⟩ = _ ∧ W.cell? ⟨w.heap.size + 1, 1, none⟩ = _ ∧ W.cell? ⟨w.heap.size + 1, 2, none⟩ = _ ∧ W.cell? ⟨w.heap.size + 1, 3, none⟩ = _ ∧ W.cell? ⟨w.heap.size + 1, 4, none⟩ = _)); clear b3))
        clear c0 c1 c2 s0 s1 s2 s3 s4
        have HX3 := Lib.hid (fun W (hb : Below w3.heap.size w3 W) => HCL.out W hb)
        have HTO := Lib.hid (fun W (hb : Below w3.heap.size w3 W) => to_ HB3.out hb)
        clear hsz2
        go_loopw [7] (fun i9 wr => ∃ k : Nat, k ≤ i ∧ i9 = .int .i64 (k : Int) ∧ Hid (∀ m, m < k → nmT y0 (syAt l m) = false) ∧ Hid (Below w3.heap.size w3 wr)) (fun i9 _ => i - (intOf i9).toNat)
        case atStart => exact ⟨0, Nat.zero_le _, rfl, Lib.hid (fun m hm => by omega), Lib.hid (Below.refl _ _)⟩
        case round =>
          obtain ⟨k, hk, rfl, HNO, HBE⟩ := hrel
          obtain ⟨c0, c1, c2, s0, s1, s2, s3, s4⟩ := HX3.out wr HBE.out
          by_cases hlt : k < i
          · have hkI : (k : Int) < (i : Int) := by omega
            have hkn : (k : Int) < (n : Int) := by omega
            have hk0 : (0 : Int) ≤ (k : Int) := by omega
            obtain ⟨ad9, e9, _, z0, _⟩ := HS.out wr (HTO.out _ HBE.out) k (by omega)
            obtain rfl := Option.some.inj e9
            clear e9
            have HY := Lib.hid (HNY.out k hlt HNO.out)
            have HM := Lib.hid (fun e => upto_more (p := fun m => nmT y0 (syAt l m) = false) HNO.out e)
            unfold nmT at HY HM
            obtain ⟨x0, hx0⟩ : ∃ x, (syAt l k).1 = x := ⟨_, rfl⟩
            rw [hx0] at z0 HY HM
            clear hx0
            obtain ⟨b, hb⟩ : ∃ b, (ByteArray.toList x0 == ByteArray.toList y0) = b := ⟨_, rfl⟩
            have HB9 := Lib.hid hb
            rw [hb] at HY HM
            cases b with
            | true =>
              have HR := Lib.hid (show v = 12 by rw [HV2.out, if_pos (HY.out rfl)])
              go_wp2_with fail
              go_quiet (fail)
              go_wp2_with fail
              go_ret
              exact ⟨by rw [HR.out]; rfl, HTO.out _ (below_drewN HBE.out _)⟩
            | false =>
              have HR := Lib.hid (HM.out rfl)
              go_wp2_with fail
              go_quiet (fail)
              go_wp2_with fail
              go_roundw
              case rel => exact ⟨k + 1, by omega, by go_num, HR, Lib.hid (below_drewN HBE.out _)⟩
              case measure => simp [intOf]; omega
          · obtain rfl : k = i := by omega
            have HV3 := Lib.hid (show v = if (if y4 = -1 then (0 : Int) else if y4 = (defn l y2 k : Int) ∧ y4 < (fn : Int) then 0 else 9) = 0 then (if y1 = true ∧ y4 = -1 then 13 else 0) else (if y4 = -1 then (0 : Int) else if y4 = (defn l y2 k : Int) ∧ y4 < (fn : Int) then 0 else 9) by rw [HV2.out, if_neg (by rw [HNN.out HNO.out]; simp)])
            clear HNO HV2 HNY HNN
            go_wp2_with fail
            obtain ⟨W5, hW5⟩ : ∃ W5, W5 = wr := ⟨_, rfl⟩
            subst hW5
            have HX5 := Lib.hid (fun W (hb : Below W5.heap.size W5 W) => HX3.out W (to_ HBE.out hb))
            have HT5 := Lib.hid (fun W (hb : Below W5.heap.size W5 W) => HTO.out W (to_ HBE.out hb))
            clear c0 c1 c2 s0 s1 s2 s3 s4
            go_loopw [9, 10] (fun v9 i9 wr => ∃ j : Nat, j ≤ k ∧ i9 = .int .i64 (j : Int) ∧ v9 = .int .i64 (defn l y2 j : Int) ∧ Hid (Below W5.heap.size W5 wr)) (fun _ i9 _ => k - (intOf i9).toNat)
            case atStart => exact ⟨0, Nat.zero_le _, rfl, rfl, Lib.hid (Below.refl _ _)⟩
            case round =>
              obtain ⟨j, hj, rfl, rfl, HBE⟩ := hrel
              obtain ⟨c0, c1, c2, s0, s1, s2, s3, s4⟩ := HX5.out wr HBE.out
              have hdl := defn_le l y2 j
              have HD := Lib.hid (defn_succ l y2 j)
              by_cases hlt2 : j < k
              · have hjI : (j : Int) < (k : Int) := by omega
                have hjn : (j : Int) < (n : Int) := by omega
                have hj0 : (0 : Int) ≤ (j : Int) := by omega
                obtain ⟨ad9, e9, _, z0, z1, z2, z3, z4⟩ := HS.out wr (HT5.out _ HBE.out) j (by omega)
                obtain rfl := Option.some.inj e9
                obtain ⟨⟨x0, x1, x2, x3, x4⟩, hx⟩ : ∃ x, syAt l j = x := ⟨_, rfl⟩
                rw [hx] at z0 z1 z2 z3 z4 HD
                dsimp only at z0 z1 z2 z3 z4 HD
                obtain ⟨d, hd⟩ : ∃ d, defn l y2 j = d := ⟨_, rfl⟩
                rw [hd] at HD hdl ⊢
                clear e9 hx hd
                by_cases h2 : x2 = y2
                · have h2' : (x2 == y2) = true := by simp [h2]
                  by_cases h4 : x4 = -1
                  · have h4' : (x4 != -1) = false := by simp [h4]
                    have HG := Lib.hid (show defn l y2 (j + 1) = d by rw [HD.out, if_neg (by simp [h4])]; rfl)
                    clear h2 h4
                    go_wp2_with fail
                    go_quiet (fail)
                    go_wp2_with fail
                    go_roundw
                    case rel => exact ⟨j + 1, by omega, by go_num, by rw [HG.out], Lib.hid (below_drewN HBE.out _)⟩
                    case measure => simp [intOf]; omega
                  · have h4' : (x4 != -1) = true := by simp [h4]
                    have HG := Lib.hid (show defn l y2 (j + 1) = d + 1 by rw [HD.out, if_pos ⟨h2, h4⟩])
                    clear h2 h4
                    go_wp2_with fail
                    go_quiet (fail)
                    go_wp2_with fail
                    go_roundw
                    case rel => exact ⟨j + 1, by omega, by go_num, by rw [HG.out]; go_num, Lib.hid (below_drewN HBE.out _)⟩
                    case measure => simp [intOf]; omega
                · have h2' : (x2 == y2) = false := by simp [h2]
                  have HG := Lib.hid (show defn l y2 (j + 1) = d by rw [HD.out, if_neg (fun x => h2 x.1)]; rfl)
                  clear h2
                  go_wp2_with fail
                  go_quiet (fail)
                  go_wp2_with fail
                  go_roundw
                  case rel => exact ⟨j + 1, by omega, by go_num, by rw [HG.out], Lib.hid (below_drewN HBE.out _)⟩
                  case measure => simp [intOf]; omega
              · obtain rfl : j = k := by omega
                obtain ⟨d, hd⟩ : ∃ d, defn l y2 j = d := ⟨_, rfl⟩
                rw [hd] at HV3 ⊢
                clear hd HD hdl
                by_cases a1 : y4 = -1
                · have a1' : (y4 != -1) = false := by simp [a1]
                  have a1'' : (y4 == -1) = true := by simp [a1]
                  cases y1 with
                  | true =>
                    have HR := Lib.hid (show v = 13 by rw [HV3.out]; simp [a1])
                    clear a1
                    go_wp2_with fail
                    go_ret
                    exact ⟨by rw [HR.out]; rfl, HT5.out _ HBE.out⟩
                  | false =>
                    have HR := Lib.hid (show v = 0 by rw [HV3.out]; simp [a1])
                    clear a1
                    go_wp2_with fail
                    go_ret
                    exact ⟨by rw [HR.out]; rfl, HT5.out _ HBE.out⟩
                · have a1' : (y4 != -1) = true := by simp [a1]
                  have a1'' : (y4 == -1) = false := by simp [a1]
                  by_cases a2 : y4 = (d : Int)
                  · have a2' : (y4 != (d : Int)) = false := by simp [a2]
                    by_cases a3 : y4 < (fn : Int)
                    · have a3' : ¬ (fn : Int) ≤ y4 := by omega
                      have HR := Lib.hid (show v = 0 by
                        have e9 : (if y4 = (d : Int) ∧ y4 < (fn : Int) then (0 : Int) else 9) = 0 := if_pos ⟨a2, a3⟩
                        rw [HV3.out, if_neg a1, e9]; simp [a1])
                      clear a1 a2 a3
                      cases y1 with
                      | true =>
                        go_wp2_with fail
                        go_ret
                        exact ⟨by rw [HR.out]; rfl, HT5.out _ HBE.out⟩
                      | false =>
                        go_wp2_with fail
                        go_ret
                        exact ⟨by rw [HR.out]; rfl, HT5.out _ HBE.out⟩
                    · have a3' : (fn : Int) ≤ y4 := by omega
                      have HR := Lib.hid (show v = 9 by
                        have e9 : (if y4 = (d : Int) ∧ y4 < (fn : Int) then (0 : Int) else 9) = 9 := if_neg (fun x => a3 x.2)
                        rw [HV3.out, if_neg a1, e9]; simp)
                      clear a1 a2 a3
                      go_wp2_with fail
                      go_ret
                      exact ⟨by rw [HR.out]; rfl, HT5.out _ HBE.out⟩
                  · have a2' : (y4 != (d : Int)) = true := by simp [a2]
                    have HR := Lib.hid (show v = 9 by
                      have e9 : (if y4 = (d : Int) ∧ y4 < (fn : Int) then (0 : Int) else 9) = 9 := if_neg (fun x => a2 x.1)
                      rw [HV3.out, if_neg a1, e9]; simp)
                    clear a1 a2
                    go_wp2_with fail
                    go_ret
                    exact ⟨by rw [HR.out]; rfl, HT5.out _ HBE.out⟩
    · by_cases k2 : y2 = 2
      · have k1' : (y2 == 1) = false := by simp [k1]
        have k1n : (y2 != 1) = true := by simp [k1]
        have k2' : (y2 == 2) = true := by simp [k2]
        have k2n : (y2 != 2) = false := by simp [k2]
        cases bt with
        | false =>
          have HR := Lib.hid (show v = 8 by rw [HV.out, if_pos q0, if_neg (by simp [k1])]; simp [k1])
          clear q0 k1 k2
          go_enter Try.func48, Try.ntmps48
          go_wp2_with (go_at_call 63; refine (HNM.out _ (to_ (alloc_ w _) (alloc_ _ _))).mono ?_; rintro e w2 ⟨rfl, b2⟩; obtain ⟨hb2, c0, c1, c2, s0, s1, s2, s3, s4⟩ := bx35 b2; have hsz2 : w.heap.size + 1 < w2.heap.size := World.block_lt_of_cell? w2 _ s0; have HB2 := Lib.hid hb2; clear b2 hb2; go_wp2_with (go_at_call 65; refine (HTX.out _ HB2.out).mono ?_; rintro e w3 ⟨⟨yt, rfl, hte⟩, b3⟩; replace c0 := cell_on c0 b3; replace c1 := cell_on c1 b3; replace c2 := cell_on c2 b3; replace s0 := cell_on s0 b3; replace s1 := cell_on s1 b3; replace s2 := cell_on s2 b3; replace s3 := cell_on s3 b3; replace s4 := cell_on s4 b3; have HB3 := Lib.hid (to_ HB2.out b3); clear b3))
          go_ret
          exact ⟨by rw [HR.out]; rfl, HB3.out⟩
        | true =>
          have HV2 := Lib.hid (show v = if nt = true then 12 else (if (if y4 = -1 then (0 : Int) else if y4 = (defn l y2 i : Int) ∧ y4 < (dn : Int) then 0 else 9) = 0 then (if y1 = true ∧ y4 = -1 then 13 else 0) else (if y4 = -1 then (0 : Int) else if y4 = (defn l y2 i : Int) ∧ y4 < (dn : Int) then 0 else 9)) by
            rw [HV.out, if_pos q0, if_pos (by simp [k2])]; unfold mostO; rw [if_neg k1])
          clear q0 k1 k2
          go_enter Try.func48, Try.ntmps48
          go_wp2_with (go_at_call 63; refine (HNM.out _ (to_ (alloc_ w _) (alloc_ _ _))).mono ?_; rintro e w2 ⟨rfl, b2⟩; obtain ⟨hb2, c0, c1, c2, s0, s1, s2, s3, s4⟩ := bx35 b2; have hsz2 : w.heap.size + 1 < w2.heap.size := World.block_lt_of_cell? w2 _ s0; have HB2 := Lib.hid hb2; clear b2 hb2; go_wp2_with (go_at_call 65; refine (HTX.out _ HB2.out).mono ?_; rintro e w3 ⟨⟨yt, rfl, hte⟩, b3⟩; replace c0 := cell_on c0 b3; replace c1 := cell_on c1 b3; replace c2 := cell_on c2 b3; replace s0 := cell_on s0 b3; replace s1 := cell_on s1 b3; replace s2 := cell_on s2 b3; replace s3 := cell_on s3 b3; replace s4 := cell_on s4 b3; have HB3 := Lib.hid (to_ HB2.out b3); have HCL := Lib.hid (fun W (hb : Below w3.heap.size w3 W) => (⟨cell_on c0 hb, cell_on c1 hb, cell_on c2 hb, cell_on s0 hb, cell_on s1 hb, cell_on s2 hb, cell_on s3 hb, cell_on s4 hb⟩ : W.cell? ⟨w.heap.size, 0, none⟩ = _ ∧ W.cell? ⟨w.heap.size, 1, none⟩ = _ ∧ W.cell? ⟨w.heap.size, 2, none⟩ = _ ∧ W.cell? ⟨w.heap.size + 1, 0, none⟩ = _ ∧ W.cell? ⟨w.heap.size + 1, 1, none⟩ = _ ∧ W.cell? ⟨w.heap.size + 1, 2, none⟩ = _ ∧ W.cell? ⟨w.heap.size + 1, 3, none⟩ = _ ∧ W.cell? ⟨w.heap.size + 1, 4, none⟩ = _)); clear b3))
          clear c0 c1 c2 s0 s1 s2 s3 s4
          have HX3 := Lib.hid (fun W (hb : Below w3.heap.size w3 W) => HCL.out W hb)
          have HTO := Lib.hid (fun W (hb : Below w3.heap.size w3 W) => to_ HB3.out hb)
          clear hsz2
          go_loopw [7] (fun i9 wr => ∃ k : Nat, k ≤ i ∧ i9 = .int .i64 (k : Int) ∧ Hid (∀ m, m < k → nmT y0 (syAt l m) = false) ∧ Hid (Below w3.heap.size w3 wr)) (fun i9 _ => i - (intOf i9).toNat)
          case atStart => exact ⟨0, Nat.zero_le _, rfl, Lib.hid (fun m hm => by omega), Lib.hid (Below.refl _ _)⟩
          case round =>
            obtain ⟨k, hk, rfl, HNO, HBE⟩ := hrel
            obtain ⟨c0, c1, c2, s0, s1, s2, s3, s4⟩ := HX3.out wr HBE.out
            by_cases hlt : k < i
            · have hkI : (k : Int) < (i : Int) := by omega
              have hkn : (k : Int) < (n : Int) := by omega
              have hk0 : (0 : Int) ≤ (k : Int) := by omega
              obtain ⟨ad9, e9, _, z0, _⟩ := HS.out wr (HTO.out _ HBE.out) k (by omega)
              obtain rfl := Option.some.inj e9
              clear e9
              have HY := Lib.hid (HNY.out k hlt HNO.out)
              have HM := Lib.hid (fun e => upto_more (p := fun m => nmT y0 (syAt l m) = false) HNO.out e)
              unfold nmT at HY HM
              obtain ⟨x0, hx0⟩ : ∃ x, (syAt l k).1 = x := ⟨_, rfl⟩
              rw [hx0] at z0 HY HM
              clear hx0
              obtain ⟨b, hb⟩ : ∃ b, (ByteArray.toList x0 == ByteArray.toList y0) = b := ⟨_, rfl⟩
              have HB9 := Lib.hid hb
              rw [hb] at HY HM
              cases b with
              | true =>
                have HR := Lib.hid (show v = 12 by rw [HV2.out, if_pos (HY.out rfl)])
                go_wp2_with fail
                go_quiet (fail)
                go_wp2_with fail
                go_ret
                exact ⟨by rw [HR.out]; rfl, HTO.out _ (below_drewN HBE.out _)⟩
              | false =>
                have HR := Lib.hid (HM.out rfl)
                go_wp2_with fail
                go_quiet (fail)
                go_wp2_with fail
                go_roundw
                case rel => exact ⟨k + 1, by omega, by go_num, HR, Lib.hid (below_drewN HBE.out _)⟩
                case measure => simp [intOf]; omega
            · obtain rfl : k = i := by omega
              have HV3 := Lib.hid (show v = if (if y4 = -1 then (0 : Int) else if y4 = (defn l y2 k : Int) ∧ y4 < (dn : Int) then 0 else 9) = 0 then (if y1 = true ∧ y4 = -1 then 13 else 0) else (if y4 = -1 then (0 : Int) else if y4 = (defn l y2 k : Int) ∧ y4 < (dn : Int) then 0 else 9) by rw [HV2.out, if_neg (by rw [HNN.out HNO.out]; simp)])
              clear HNO HV2 HNY HNN
              go_wp2_with fail
              obtain ⟨W5, hW5⟩ : ∃ W5, W5 = wr := ⟨_, rfl⟩
              subst hW5
              have HX5 := Lib.hid (fun W (hb : Below W5.heap.size W5 W) => HX3.out W (to_ HBE.out hb))
              have HT5 := Lib.hid (fun W (hb : Below W5.heap.size W5 W) => HTO.out W (to_ HBE.out hb))
              clear c0 c1 c2 s0 s1 s2 s3 s4
              go_loopw [9, 10] (fun v9 i9 wr => ∃ j : Nat, j ≤ k ∧ i9 = .int .i64 (j : Int) ∧ v9 = .int .i64 (defn l y2 j : Int) ∧ Hid (Below W5.heap.size W5 wr)) (fun _ i9 _ => k - (intOf i9).toNat)
              case atStart => exact ⟨0, Nat.zero_le _, rfl, rfl, Lib.hid (Below.refl _ _)⟩
              case round =>
                obtain ⟨j, hj, rfl, rfl, HBE⟩ := hrel
                obtain ⟨c0, c1, c2, s0, s1, s2, s3, s4⟩ := HX5.out wr HBE.out
                have hdl := defn_le l y2 j
                have HD := Lib.hid (defn_succ l y2 j)
                by_cases hlt2 : j < k
                · have hjI : (j : Int) < (k : Int) := by omega
                  have hjn : (j : Int) < (n : Int) := by omega
                  have hj0 : (0 : Int) ≤ (j : Int) := by omega
                  obtain ⟨ad9, e9, _, z0, z1, z2, z3, z4⟩ := HS.out wr (HT5.out _ HBE.out) j (by omega)
                  obtain rfl := Option.some.inj e9
                  obtain ⟨⟨x0, x1, x2, x3, x4⟩, hx⟩ : ∃ x, syAt l j = x := ⟨_, rfl⟩
                  rw [hx] at z0 z1 z2 z3 z4 HD
                  dsimp only at z0 z1 z2 z3 z4 HD
                  obtain ⟨d, hd⟩ : ∃ d, defn l y2 j = d := ⟨_, rfl⟩
                  rw [hd] at HD hdl ⊢
                  clear e9 hx hd
                  by_cases h2 : x2 = y2
                  · have h2' : (x2 == y2) = true := by simp [h2]
                    by_cases h4 : x4 = -1
                    · have h4' : (x4 != -1) = false := by simp [h4]
                      have HG := Lib.hid (show defn l y2 (j + 1) = d by rw [HD.out, if_neg (by simp [h4])]; rfl)
                      clear h2 h4
                      go_wp2_with fail
                      go_quiet (fail)
                      go_wp2_with fail
                      go_roundw
                      case rel => exact ⟨j + 1, by omega, by go_num, by rw [HG.out], Lib.hid (below_drewN HBE.out _)⟩
                      case measure => simp [intOf]; omega
                    · have h4' : (x4 != -1) = true := by simp [h4]
                      have HG := Lib.hid (show defn l y2 (j + 1) = d + 1 by rw [HD.out, if_pos ⟨h2, h4⟩])
                      clear h2 h4
                      go_wp2_with fail
                      go_quiet (fail)
                      go_wp2_with fail
                      go_roundw
                      case rel => exact ⟨j + 1, by omega, by go_num, by rw [HG.out]; go_num, Lib.hid (below_drewN HBE.out _)⟩
                      case measure => simp [intOf]; omega
                  · have h2' : (x2 == y2) = false := by simp [h2]
                    have HG := Lib.hid (show defn l y2 (j + 1) = d by rw [HD.out, if_neg (fun x => h2 x.1)]; rfl)
                    clear h2
                    go_wp2_with fail
                    go_quiet (fail)
                    go_wp2_with fail
                    go_roundw
                    case rel => exact ⟨j + 1, by omega, by go_num, by rw [HG.out], Lib.hid (below_drewN HBE.out _)⟩
                    case measure => simp [intOf]; omega
                · obtain rfl : j = k := by omega
                  obtain ⟨d, hd⟩ : ∃ d, defn l y2 j = d := ⟨_, rfl⟩
                  rw [hd] at HV3 ⊢
                  clear hd HD hdl
                  by_cases a1 : y4 = -1
                  · have a1' : (y4 != -1) = false := by simp [a1]
                    have a1'' : (y4 == -1) = true := by simp [a1]
                    cases y1 with
                    | true =>
                      have HR := Lib.hid (show v = 13 by rw [HV3.out]; simp [a1])
                      clear a1
                      go_wp2_with fail
                      go_ret
                      exact ⟨by rw [HR.out]; rfl, HT5.out _ HBE.out⟩
                    | false =>
                      have HR := Lib.hid (show v = 0 by rw [HV3.out]; simp [a1])
                      clear a1
                      go_wp2_with fail
                      go_ret
                      exact ⟨by rw [HR.out]; rfl, HT5.out _ HBE.out⟩
                  · have a1' : (y4 != -1) = true := by simp [a1]
                    have a1'' : (y4 == -1) = false := by simp [a1]
                    by_cases a2 : y4 = (d : Int)
                    · have a2' : (y4 != (d : Int)) = false := by simp [a2]
                      by_cases a3 : y4 < (dn : Int)
                      · have a3' : ¬ (dn : Int) ≤ y4 := by omega
                        have HR := Lib.hid (show v = 0 by
                          have e9 : (if y4 = (d : Int) ∧ y4 < (dn : Int) then (0 : Int) else 9) = 0 := if_pos ⟨a2, a3⟩
                          rw [HV3.out, if_neg a1, e9]; simp [a1])
                        clear a1 a2 a3
                        cases y1 with
                        | true =>
                          go_wp2_with fail
                          go_ret
                          exact ⟨by rw [HR.out]; rfl, HT5.out _ HBE.out⟩
                        | false =>
                          go_wp2_with fail
                          go_ret
                          exact ⟨by rw [HR.out]; rfl, HT5.out _ HBE.out⟩
                      · have a3' : (dn : Int) ≤ y4 := by omega
                        have HR := Lib.hid (show v = 9 by
                          have e9 : (if y4 = (d : Int) ∧ y4 < (dn : Int) then (0 : Int) else 9) = 9 := if_neg (fun x => a3 x.2)
                          rw [HV3.out, if_neg a1, e9]; simp)
                        clear a1 a2 a3
                        go_wp2_with fail
                        go_ret
                        exact ⟨by rw [HR.out]; rfl, HT5.out _ HBE.out⟩
                    · have a2' : (y4 != (d : Int)) = true := by simp [a2]
                      have HR := Lib.hid (show v = 9 by
                        have e9 : (if y4 = (d : Int) ∧ y4 < (dn : Int) then (0 : Int) else 9) = 9 := if_neg (fun x => a2 x.1)
                        rw [HV3.out, if_neg a1, e9]; simp)
                      clear a1 a2
                      go_wp2_with fail
                      go_ret
                      exact ⟨by rw [HR.out]; rfl, HT5.out _ HBE.out⟩
      · have k1n : (y2 != 1) = true := by simp [k1]
        have k2n : (y2 != 2) = true := by simp [k2]
        have HR := Lib.hid (show v = 8 by rw [HV.out, if_pos q0, if_neg (by simp [k1, k2])]; simp [k1, k2])
        clear q0 k1 k2
        go_enter Try.func48, Try.ntmps48
        go_wp2_with (go_at_call 63; refine (HNM.out _ (to_ (alloc_ w _) (alloc_ _ _))).mono ?_; rintro e w2 ⟨rfl, b2⟩; obtain ⟨hb2, c0, c1, c2, s0, s1, s2, s3, s4⟩ := bx35 b2; have hsz2 : w.heap.size + 1 < w2.heap.size := World.block_lt_of_cell? w2 _ s0; have HB2 := Lib.hid hb2; clear b2 hb2)
        go_ret
        exact ⟨by rw [HR.out]; rfl, HB2.out⟩
  · have q0' : (q != 0) = true := by simp [q0]
    have HR := Lib.hid (show v = q by rw [HV.out, if_neg q0])
    clear q0
    go_enter Try.func48, Try.ntmps48
    go_wp2_with (go_at_call 63; refine (HNM.out _ (to_ (alloc_ w _) (alloc_ _ _))).mono ?_; rintro e w2 ⟨rfl, b2⟩; obtain ⟨hb2, c0, c1, c2, s0, s1, s2, s3, s4⟩ := bx35 b2; have hsz2 : w.heap.size + 1 < w2.heap.size := World.block_lt_of_cell? w2 _ s0; have HB2 := Lib.hid hb2; clear b2 hb2)
    go_ret
    exact ⟨by rw [HR.out]; rfl, HB2.out⟩
end
end Go.Proofs.Ytbcabomblfehlab.Bo
