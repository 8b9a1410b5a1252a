/-
  WALKS of layer 24: the document's Few, down to lengths.
-/
import Derived.Test.YtbcabomblfehlabRe
namespace Go.Proofs.Ytbcabomblfehlab.Bo
open Go.RowKit Go.Maps
open Mem Rf
set_option linter.unusedSimpArgs false
set_option linter.unusedVariables false

/-- An answer that says no less than p where it is yes. -/
def FewB (e : Ending) (p : Prop) : Prop := ∃ b, e = .returned (.bool b) ∧ (b = true → p)
def okSl (x : Sl3) : Prop := x.2.1 ≤ 9223372036854775807
def okF (x : Fc) : Prop := okSl x.kinds ∧ okSl x.lines ∧ okSl x.code ∧ okSl x.rel
def okD (x : Dc) : Prop := okSl x.words ∧ okSl x.rel
def ltF (x : Fc) : Prop := x.kinds.2.1 ≤ 100 ∧ x.lines.2.1 ≤ 100 ∧ x.code.2.1 ≤ 100 ∧ x.rel.2.1 ≤ 100
def ltD (x : Dc) : Prop := x.words.2.1 ≤ 100 ∧ x.rel.2.1 ≤ 100
/-- An object that is few. -/
def ltO (o : Oj) : Prop := (o.n ≤ 60 ∧ o.fn ≤ 20 ∧ o.dn ≤ 20) ∧ (∀ k, k < o.n → (syAt o.l k).1.size ≤ 300) ∧ (∀ k, k < o.fn → ltF (fcAt o.fl k)) ∧ ∀ k, k < o.dn → ltD (dcAt o.dl k)

theorem fewL16 (x : Fc) (w : World) (h : okF x) :
    Calls Try.prog 46 #[.agg (encFc x).toArray] w fun e w' => FewB e (ltF x) ∧ Below w.heap.size w w' := by
  obtain ⟨x0, ⟨kA, kn, kc⟩, x2, x3, x4, x5, ⟨lA, ln, lc⟩, ⟨cA, cn, cc⟩, ⟨rA, rn, rc⟩⟩ := x
  unfold encFc slV
  unfold okF okSl at h
  unfold ltF
  dsimp only at h ⊢
  obtain ⟨hk, hl, hc, hr⟩ := h
  obtain ⟨bk, ek⟩ : ∃ b, decide ((kn : Int) ≤ 100) = b := ⟨_, rfl⟩
  obtain ⟨bl, el⟩ : ∃ b, decide ((ln : Int) ≤ 100) = b := ⟨_, rfl⟩
  obtain ⟨bc, ec⟩ : ∃ b, decide ((cn : Int) ≤ 100) = b := ⟨_, rfl⟩
  obtain ⟨br, er⟩ : ∃ b, decide ((rn : Int) ≤ 100) = b := ⟨_, rfl⟩
  have Fk := Lib.hid (show bk = true → kn ≤ 100 from fun e => by subst e; have := of_decide_eq_true ek; omega)
  have Fl := Lib.hid (show bl = true → ln ≤ 100 from fun e => by subst e; have := of_decide_eq_true el; omega)
  have Fc := Lib.hid (show bc = true → cn ≤ 100 from fun e => by subst e; have := of_decide_eq_true ec; omega)
  have Fr := Lib.hid (show br = true → rn ≤ 100 from fun e => by subst e; have := of_decide_eq_true er; omega)
  cases bk with
  | false =>
    go_enter Try.func46, Try.ntmps46
    go_wp2_with fail
    go_ret
    exact ⟨⟨_, rfl, fun e => by cases e⟩, (Below.refl _ _).alloc (Nat.le_refl _) _⟩
  | true =>
    cases bl with
    | false =>
      go_enter Try.func46, Try.ntmps46
      go_wp2_with fail
      go_ret
      exact ⟨⟨_, rfl, fun e => by cases e⟩, (Below.refl _ _).alloc (Nat.le_refl _) _⟩
    | true =>
      cases bc with
      | false =>
        go_enter Try.func46, Try.ntmps46
        go_wp2_with fail
        go_ret
        exact ⟨⟨_, rfl, fun e => by cases e⟩, (Below.refl _ _).alloc (Nat.le_refl _) _⟩
      | true =>
        go_enter Try.func46, Try.ntmps46
        go_wp2_with fail
        go_ret
        exact ⟨⟨_, rfl, fun e => ⟨Fk.out (by trivial), Fl.out (by trivial), Fc.out (by trivial), Fr.out e⟩⟩, (Below.refl _ _).alloc (Nat.le_refl _) _⟩

theorem fewL15 (x : Dc) (w : World) (h : okD x) :
    Calls Try.prog 47 #[.agg (encDc x).toArray] w fun e w' => FewB e (ltD x) ∧ Below w.heap.size w w' := by
  obtain ⟨x0, ⟨kA, kn, kc⟩, ⟨rA, rn, rc⟩⟩ := x
  unfold encDc slV
  unfold okD okSl at h
  unfold ltD
  dsimp only at h ⊢
  obtain ⟨hk, hr⟩ := h
  obtain ⟨bk, ek⟩ : ∃ b, decide ((kn : Int) ≤ 100) = b := ⟨_, rfl⟩
  obtain ⟨br, er⟩ : ∃ b, decide ((rn : Int) ≤ 100) = b := ⟨_, rfl⟩
  have Fk := Lib.hid (show bk = true → kn ≤ 100 from fun e => by subst e; have := of_decide_eq_true ek; omega)
  have Fr := Lib.hid (show br = true → rn ≤ 100 from fun e => by subst e; have := of_decide_eq_true er; omega)
  cases bk with
  | false =>
    go_enter Try.func47, Try.ntmps47
    go_wp2_with fail
    go_ret
    exact ⟨⟨_, rfl, fun e => by cases e⟩, (Below.refl _ _).alloc (Nat.le_refl _) _⟩
  | true =>
    go_enter Try.func47, Try.ntmps47
    go_wp2_with fail
    go_ret
    exact ⟨⟨_, rfl, fun e => ⟨Fk.out (by trivial), Fr.out e⟩⟩, (Below.refl _ _).alloc (Nat.le_refl _) _⟩

set_option maxRecDepth 100000 in
set_option maxHeartbeats 4000000 in
theorem fewL19 (w : World) (o : Oj) (h : OjL w o) (hfl : ∀ k, k < o.fn → okF (fcAt o.fl k)) (hdl : ∀ k, k < o.dn → okD (dcAt o.dl k)) :
    Calls Try.prog 32 #[.agg #[.slice o.A o.n o.c, .slice o.fA o.fn o.fc, .slice o.dA o.dn o.dc]] w fun e w' => FewB e (ltO o) ∧ Below w.heap.size w w' := by
  have HA := Lib.hid h
  have hon := h.sy.few
  have hfn : o.fn ≤ 9223372036854775807 := by have h1 := h.fs.2.1; have h2 := h.fs.2.2.1; unfold maxLen at h2; omega
  have hdn : o.dn ≤ 9223372036854775807 := by have h1 := h.ds.2.1; have h2 := h.ds.2.2.1; unfold maxLen at h2; omega
  clear h
  obtain ⟨oA, on, oc, ol, fA, fn, fc, fl, dA, dn, dc, dl⟩ := o
  unfold ltO
  dsimp only at hfl hdl hon hfn hdn ⊢
  obtain ⟨W0, hW0⟩ : ∃ W0, w.alloc (.cells #[.slice oA on oc, .slice fA fn fc, .slice dA dn dc] 82) = W0 := ⟨_, rfl⟩
  have HB0 := Lib.hid (show Below w.heap.size w W0 from hW0 ▸ (Below.refl _ _).alloc (Nat.le_refl _) _)
  have hbk : Blk W0 w.heap.size 82 #[.slice oA on oc, .slice fA fn fc, .slice dA dn dc] := hW0 ▸ Blk.new _ _ _
  have hlt := hbk.lt
  have HX := Lib.hid (show ∀ W, Below W0.heap.size W0 W → W.cell? ⟨w.heap.size, 0, none⟩ = some (.slice oA on oc) ∧ W.cell? ⟨w.heap.size, 1, none⟩ = some (.slice fA fn fc) ∧ W.cell? ⟨w.heap.size, 2, none⟩ = some (.slice dA dn dc) from fun W hb => by
    have h2 : Blk W w.heap.size 82 #[.slice oA on oc, .slice fA fn fc, .slice dA dn dc] := hbk.below hb hlt
    exact ⟨h2.cell 0, h2.cell 1, h2.cell 2⟩)
  have HS := Lib.hid (fun W (hb : Below W0.heap.size W0 W) k (hk : k < on) => (HA.out.on (to_ HB0.out hb)).sy.at_ hk)
  have HF := Lib.hid (fun W (hb : Below W0.heap.size W0 W) k (hk : k < fn) => fc_at (HA.out.on (to_ HB0.out hb)).fs hk)
  have HD := Lib.hid (fun W (hb : Below W0.heap.size W0 W) k (hk : k < dn) => dc_at (HA.out.on (to_ HB0.out hb)).ds hk)
  have HFL := Lib.hid hfl
  have HDL := Lib.hid hdl
  clear hbk hfl hdl hlt
  dsimp only at HS HF HD
  go_enter Try.func32, Try.ntmps32
  go_wp2_with fail
  go_loopw [3] (fun v wr => ∃ k : Nat, k ≤ on ∧ v = .int .i64 (k : Int) ∧ (∀ j, j < k → (syAt ol j).1.size ≤ 300) ∧ Below W0.heap.size W0 wr) (fun v _ => on - (intOf v).toNat)
  case atStart => exact ⟨0, Nat.zero_le _, rfl, fun j hj => by omega, Below.refl _ _⟩
  case round =>
    obtain ⟨k, hk, rfl, hno, hbel⟩ := hrel
    obtain ⟨x0, x1, x2⟩ := HX.out wr hbel
    have HBE := Lib.hid (HB0.out.trans (hbel.mono HB0.out.size))
    by_cases hlt : k < on
    · have hkI : (k : Int) < (on : Int) := by omega
      have hk0 : (0 : Int) ≤ (k : Int) := by omega
      obtain ⟨ad2, rfl, hb2, s0, -⟩ := HS.out wr hbel k hlt
      obtain ⟨y, hy⟩ : ∃ y, (syAt ol k).1 = y := ⟨_, rfl⟩
      rw [hy] at s0
      by_cases h3 : y.size ≤ 300
      · have h3' : ¬ (300 : Int) < (y.size : Int) := by omega
        have HNO := Lib.hid (show ∀ j, j < k + 1 → (syAt ol j).1.size ≤ 300 from fun j hj => by
          by_cases e : j = k
          · subst e; rw [hy]; exact h3
          · exact hno j (by omega))
        clear hno hy h3
        go_wp2_with fail
        go_roundw
        case rel => exact ⟨k + 1, by omega, by go_num, HNO.out, hbel⟩
        case measure => simp [intOf]; omega
      · have h3' : (300 : Int) < (y.size : Int) := by omega
        clear hno hy h3
        go_wp2_with fail
        go_ret
        exact ⟨⟨false, rfl, fun h => by cases h⟩, HBE.out⟩
    · obtain rfl : k = on := by omega
      have HNO := Lib.hid hno
      have HBEL := Lib.hid hbel
      clear hno hbel
      obtain ⟨wz, hwz⟩ : ∃ wz, wz = wr := ⟨_, rfl⟩
      subst hwz
      go_wp2_with fail
      go_loopw [4] (fun v wr => ∃ j : Nat, j ≤ fn ∧ j ≤ 20 ∧ v = .int .i64 (j : Int) ∧ Hid (∀ i, i < j → ltF (fcAt fl i)) ∧ Below W0.heap.size W0 wr) (fun v _ => fn - (intOf v).toNat)
      case atStart => exact ⟨0, Nat.zero_le _, by omega, rfl, Lib.hid (fun i hi => by omega), HBEL.out⟩
      case round =>
        obtain ⟨j, hj, hj20, rfl, HFF, hbel⟩ := hrel
        clear x0 x1 x2
        obtain ⟨x0, x1, x2⟩ := HX.out wr hbel
        have HBE := Lib.hid (HB0.out.trans (hbel.mono HB0.out.size))
        by_cases hjl : j < fn
        · have hjI : (j : Int) < (fn : Int) := by omega
          have hj0 : (0 : Int) ≤ (j : Int) := by omega
          by_cases h20 : 20 ≤ j
          · have h20' : (20 : Int) ≤ (j : Int) := by omega
            clear h20
            go_wp2_with fail
            go_ret
            exact ⟨⟨false, rfl, fun h => by cases h⟩, HBE.out⟩
          · have h20' : ¬ (20 : Int) ≤ (j : Int) := by omega
            have HJ20 := Lib.hid (show j + 1 ≤ 20 by omega)
            clear h20
            obtain ⟨ad2, rfl, hbx, c0, c1, c2, c3, c4, c5, c6, c7, c8⟩ := HF.out wr hbel j hjl
            have HC := Lib.hid (fewL16 (fcAt fl j) wr (HFL.out j hjl))
            obtain ⟨x, hx⟩ : ∃ x, fcAt fl j = x := ⟨_, rfl⟩
            have HXE := Lib.hid hx
            rw [hx] at c0 c1 c2 c3 c4 c5 c6 c7 c8 HC
            obtain ⟨z0, ⟨kA, kn, kc⟩, z2, z3, z4, z5, ⟨lA, ln, lc⟩, ⟨cA, cn, cc⟩, ⟨rA, rn, rc⟩⟩ := x
            unfold encFc at HC
            unfold slV at c1 c6 c7 c8 HC
            dsimp only at c0 c1 c2 c3 c4 c5 c6 c7 c8 HC
            have HBL := Lib.hid hbel
            clear hx hbel
            go_wp2_with (go_at_call 46; refine HC.out.mono ?_; rintro e w2 ⟨⟨b, rfl, hb9⟩, hb2⟩; have HB2 := Lib.hid hb2; have HB9 := Lib.hid hb9; clear hb2 hb9; cases b)
            · go_wp2_with fail
              go_ret
              exact ⟨⟨false, rfl, fun h => by cases h⟩, HBE.out.trans (HB2.out.mono HBE.out.size)⟩
            · go_wp2_with fail
              go_roundw
              case rel => exact ⟨j + 1, by omega, HJ20.out, by go_num, Lib.hid (fun i hi => by
                by_cases e : i = j
                · subst e; rw [HXE.out]; exact HB9.out (by trivial)
                · exact HFF.out i (by omega)), HBL.out.trans (HB2.out.mono HBL.out.size)⟩
              case measure => simp [intOf]; omega
        · obtain rfl : j = fn := by omega
          have HBEL2 := Lib.hid hbel
          have HJ20 := Lib.hid hj20
          clear hbel hj20
          obtain ⟨wy, hwy⟩ : ∃ wy, wy = wr := ⟨_, rfl⟩
          subst hwy
          go_wp2_with fail
          go_loopw [5] (fun v wr => ∃ j : Nat, j ≤ dn ∧ j ≤ 20 ∧ v = .int .i64 (j : Int) ∧ Hid (∀ i, i < j → ltD (dcAt dl i)) ∧ Below W0.heap.size W0 wr) (fun v _ => dn - (intOf v).toNat)
          case atStart => exact ⟨0, Nat.zero_le _, by omega, rfl, Lib.hid (fun i hi => by omega), HBEL2.out⟩
          case round =>
            obtain ⟨i, hi, hi20, rfl, HDD, hbel⟩ := hrel
            clear x0 x1 x2
            obtain ⟨x0, x1, x2⟩ := HX.out wr hbel
            have HBE := Lib.hid (HB0.out.trans (hbel.mono HB0.out.size))
            by_cases hil : i < dn
            · have hiI : (i : Int) < (dn : Int) := by omega
              have hi0 : (0 : Int) ≤ (i : Int) := by omega
              by_cases h20 : 20 ≤ i
              · have h20' : (20 : Int) ≤ (i : Int) := by omega
                clear h20
                go_wp2_with fail
                go_ret
                exact ⟨⟨false, rfl, fun h => by cases h⟩, HBE.out⟩
              · have h20' : ¬ (20 : Int) ≤ (i : Int) := by omega
                have HI20 := Lib.hid (show i + 1 ≤ 20 by omega)
                clear h20
                obtain ⟨ad2, rfl, hbx, c0, c1, c2⟩ := HD.out wr hbel i hil
                have HC := Lib.hid (fewL15 (dcAt dl i) wr (HDL.out i hil))
                obtain ⟨x, hx⟩ : ∃ x, dcAt dl i = x := ⟨_, rfl⟩
                have HXE := Lib.hid hx
                rw [hx] at c0 c1 c2 HC
                obtain ⟨z0, ⟨kA, kn, kc⟩, ⟨rA, rn, rc⟩⟩ := x
                unfold encDc at HC
                unfold slV at c1 c2 HC
                dsimp only at c0 c1 c2 HC
                have HBL := Lib.hid hbel
                clear hx hbel
                go_wp2_with (go_at_call 47; refine HC.out.mono ?_; rintro e w2 ⟨⟨b, rfl, hb9⟩, hb2⟩; have HB2 := Lib.hid hb2; have HB9 := Lib.hid hb9; clear hb2 hb9; cases b)
                · go_wp2_with fail
                  go_ret
                  exact ⟨⟨false, rfl, fun h => by cases h⟩, HBE.out.trans (HB2.out.mono HBE.out.size)⟩
                · go_wp2_with fail
                  go_roundw
                  case rel => exact ⟨i + 1, by omega, HI20.out, by go_num, Lib.hid (fun m hm => by
                    by_cases e : m = i
                    · subst e; rw [HXE.out]; exact HB9.out (by trivial)
                    · exact HDD.out m (by omega)), HBL.out.trans (HB2.out.mono HBL.out.size)⟩
                  case measure => simp [intOf]; omega
            · obtain rfl : i = dn := by omega
              obtain ⟨b, hb⟩ : ∃ b, decide ((k : Int) ≤ 60) = b := ⟨_, rfl⟩
              have HBB := Lib.hid (show b = true → k ≤ 60 from fun e => by subst e; have := of_decide_eq_true hb; omega)
              have HI20 := Lib.hid hi20
              clear hi20
              go_wp2_with fail
              go_ret
              exact ⟨⟨_, rfl, fun e => ⟨⟨HBB.out e, HJ20.out, HI20.out⟩, HNO.out, HFF.out, HDD.out⟩⟩, HBE.out⟩

set_option maxRecDepth 100000 in
set_option maxHeartbeats 2000000 in
theorem fewL24 (w : World) (A : Option Addr) (n c : Nat) (os : List Oj) (h : OjsL w A n c os) (hfl : ∀ i, i < n → ∀ k, k < (ojAt os i).fn → okF (fcAt (ojAt os i).fl k)) (hdl : ∀ i, i < n → ∀ k, k < (ojAt os i).dn → okD (dcAt (ojAt os i).dl k)) :
    Calls Try.prog 20 #[.slice A n c] w fun e w' => FewB e (n ≤ 9 ∧ ∀ i, i < n → ltO (ojAt os i)) ∧ Below w.heap.size w w' := by
  have hn : n ≤ 9223372036854775807 := by have h1 := h.wd.2.1; have h2 := h.wd.2.2.1; unfold maxLen at h2; omega
  have HO := Lib.hid h
  have HFL := Lib.hid hfl
  have HDL := Lib.hid hdl
  clear h hfl hdl
  go_enter Try.func20, Try.ntmps20
  go_wp2_with fail
  go_loopw [3] (fun v wr => ∃ k : Nat, k ≤ n ∧ v = .int .i64 (k : Int) ∧ Hid (∀ i, i < k → ltO (ojAt os i)) ∧ Below w.heap.size w wr) (fun v _ => n - (intOf v).toNat)
  case atStart => exact ⟨0, Nat.zero_le _, rfl, Lib.hid (fun j hj => by omega), Below.refl _ _⟩
  case round =>
    obtain ⟨k, hk, rfl, HNO, hbel⟩ := hrel
    have HBE := Lib.hid hbel
    clear hbel
    by_cases hlt : k < n
    · have hkI : (k : Int) < (n : Int) := by omega
      have hk0 : (0 : Int) ≤ (k : Int) := by omega
      obtain ⟨ad, rfl, hb, c0, c1, c2⟩ := (HO.out.on HBE.out).at_ hlt
      have HC := Lib.hid (fewL19 wr (ojAt os k) (((HO.out.on HBE.out)).each k hlt) (HFL.out k hlt) (HDL.out k hlt))
      obtain ⟨o, ho⟩ : ∃ o, ojAt os k = o := ⟨_, rfl⟩
      have HO2 := Lib.hid ho
      rw [ho] at c0 c1 c2 HC
      obtain ⟨oA, on, oc, ol, fA, fn, fc, fl, dA, dn, dc, dl⟩ := o
      dsimp only at c0 c1 c2 HC
      clear ho
      go_wp2_with (go_at_call 32; refine HC.out.mono ?_; rintro e w2 ⟨⟨b, rfl, hb3⟩, hb2⟩; have HB2 := Lib.hid hb2; have HB3 := Lib.hid hb3; clear hb2 hb3; cases b)
      · go_wp2_with fail
        go_ret
        exact ⟨⟨false, rfl, fun h => by cases h⟩, HBE.out.trans (HB2.out.mono HBE.out.size)⟩
      · go_wp2_with fail
        go_roundw
        case rel =>
          refine ⟨k + 1, by omega, by go_num, Lib.hid (fun i hi => ?_), HBE.out.trans (HB2.out.mono HBE.out.size)⟩
          by_cases e : i = k
          · subst e
            rw [HO2.out]
            exact HB3.out (by trivial)
          · exact HNO.out i (by omega)
        case measure => simp [intOf]; omega
    · obtain rfl : k = n := by omega
      obtain ⟨b, hb⟩ : ∃ b, decide ((k : Int) ≤ 9) = b := ⟨_, rfl⟩
      have HBB := Lib.hid (show b = true → k ≤ 9 from fun e => by subst e; have := of_decide_eq_true hb; omega)
      go_wp2_with fail
      go_ret
      exact ⟨⟨_, rfl, fun e => ⟨HBB.out e, HNO.out⟩⟩, HBE.out⟩
end Go.Proofs.Ytbcabomblfehlab.Bo
