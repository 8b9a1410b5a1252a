/-
  WALKS of layer 23: the document's Few of functions, data, files.
-/
import Derived.Test.YtmabenffdpipmaaSg
namespace Go.Proofs.Ytmabenffdpipmaa.By
open Go.RowKit
open Mem Rf
set_option linter.unusedSimpArgs false
set_option linter.unusedVariables false

/-- A function's cells: what they hold is slices, numbers, a flag. -/
structure Fc where
  cl : Int
  kinds : Sl3
  pad : Int
  no : Bool
  f : Int
  t : Int
  lines : Sl3
  code : Sl3
  rel : Sl3
def encFc (x : Fc) : List Value := [.int .i64 x.cl, slV x.kinds, .int .i64 x.pad, .bool x.no, .int .i64 x.f, .int .i64 x.t, slV x.lines, slV x.code, slV x.rel]
/-- Data's cells. -/
structure Dc where
  kd : Int
  words : Sl3
  rel : Sl3
def encDc (x : Dc) : List Value := [.int .i64 x.kd, slV x.words, slV x.rel]
def okSl (x : Sl3) : Prop := x.2.1 ≤ 9223372036854775807

theorem few16 (x : Fc) (w : World) (h1 : okSl x.kinds) (h2 : okSl x.lines) (h3 : okSl x.code) (h4 : okSl x.rel) :
    Calls Try.prog 24 #[.agg (encFc x).toArray] w fun e w' => (∃ b, e = .returned (.bool b)) ∧ Below w.heap.size w w' := by
  obtain ⟨x0, ⟨kA, kn, kc⟩, x2, x3, x4, x5, ⟨lA, ln, lc⟩, ⟨cA, cn, cc⟩, ⟨rA, rn, rc⟩⟩ := x
  unfold encFc slV
  unfold okSl at h1 h2 h3 h4
  dsimp only at h1 h2 h3 h4 ⊢
  obtain ⟨b1, e1⟩ : ∃ b, decide ((kn : Int) ≤ 100) = b := ⟨_, rfl⟩
  obtain ⟨b2, e2⟩ : ∃ b, decide ((ln : Int) ≤ 100) = b := ⟨_, rfl⟩
  obtain ⟨b3, e3⟩ : ∃ b, decide ((cn : Int) ≤ 100) = b := ⟨_, rfl⟩
  obtain ⟨b4, e4⟩ : ∃ b, decide ((rn : Int) ≤ 100) = b := ⟨_, rfl⟩
  cases b1 with
  | false =>
    go_enter Try.func24, Try.ntmps24
    go_wp2_with fail
    go_ret
    exact ⟨⟨_, rfl⟩, (Below.refl _ _).alloc (Nat.le_refl _) _⟩
  | true =>
    cases b2 with
    | false =>
      go_enter Try.func24, Try.ntmps24
      go_wp2_with fail
      go_ret
      exact ⟨⟨_, rfl⟩, (Below.refl _ _).alloc (Nat.le_refl _) _⟩
    | true =>
      cases b3 with
      | false =>
        go_enter Try.func24, Try.ntmps24
        go_wp2_with fail
        go_ret
        exact ⟨⟨_, rfl⟩, (Below.refl _ _).alloc (Nat.le_refl _) _⟩
      | true =>
        go_enter Try.func24, Try.ntmps24
        go_wp2_with fail
        go_ret
        exact ⟨⟨_, rfl⟩, (Below.refl _ _).alloc (Nat.le_refl _) _⟩

theorem few15 (x : Dc) (w : World) (h1 : okSl x.words) (h2 : okSl x.rel) :
    Calls Try.prog 25 #[.agg (encDc x).toArray] w fun e w' => (∃ b, e = .returned (.bool b)) ∧ Below w.heap.size w w' := by
  obtain ⟨x0, ⟨kA, kn, kc⟩, ⟨rA, rn, rc⟩⟩ := x
  unfold encDc slV
  unfold okSl at h1 h2
  dsimp only at h1 h2 ⊢
  obtain ⟨b1, e1⟩ : ∃ b, decide ((kn : Int) ≤ 100) = b := ⟨_, rfl⟩
  obtain ⟨b4, e4⟩ : ∃ b, decide ((rn : Int) ≤ 100) = b := ⟨_, rfl⟩
  cases b1 with
  | false =>
    go_enter Try.func25, Try.ntmps25
    go_wp2_with fail
    go_ret
    exact ⟨⟨_, rfl⟩, (Below.refl _ _).alloc (Nat.le_refl _) _⟩
  | true =>
    go_enter Try.func25, Try.ntmps25
    go_wp2_with fail
    go_ret
    exact ⟨⟨_, rfl⟩, (Below.refl _ _).alloc (Nat.le_refl _) _⟩

/-- What lies in a file beside its symbols, as far as it is asked how much. -/
structure Rest (w : World) (B : Nat) (F D : Sl3) : Prop where
  fs : ∃ l : List Fc, Wd 9 encFc w B F.1 F.2.1 F.2.2 l ∧ ∀ x ∈ l, okSl x.kinds ∧ okSl x.lines ∧ okSl x.code ∧ okSl x.rel
  ds : ∃ l : List Dc, Wd 3 encDc w B D.1 D.2.1 D.2.2 l ∧ ∀ x ∈ l, okSl x.words ∧ okSl x.rel
theorem Rest.below {w w' : World} {B : Nat} {F D : Sl3} (h : Rest w B F D) (hb : Below B w w') : Rest w' B F D where
  fs := by obtain ⟨l, h1, h2⟩ := h.fs; exact ⟨l, h1.below hb, h2⟩
  ds := by obtain ⟨l, h1, h2⟩ := h.ds; exact ⟨l, h1.below hb, h2⟩

theorem fc_at {w : World} {B : Nat} {A : Option Addr} {n c : Nat} {l : List Fc} (h : Wd 9 encFc w B A n c l) {i : Nat} (hi : i < n) :
    ∃ ad x, A = some ad ∧ x ∈ l ∧ w.cell? (ad.add (i * 9)) = some (.int .i64 x.cl) ∧ w.cell? ⟨(ad.add (i * 9)).block, (ad.add (i * 9)).off + 1, none⟩ = some (slV x.kinds) ∧ w.cell? ⟨(ad.add (i * 9)).block, (ad.add (i * 9)).off + 2, none⟩ = some (.int .i64 x.pad) ∧ w.cell? ⟨(ad.add (i * 9)).block, (ad.add (i * 9)).off + 3, none⟩ = some (.bool x.no) ∧ w.cell? ⟨(ad.add (i * 9)).block, (ad.add (i * 9)).off + 4, none⟩ = some (.int .i64 x.f) ∧ w.cell? ⟨(ad.add (i * 9)).block, (ad.add (i * 9)).off + 5, none⟩ = some (.int .i64 x.t) ∧
    w.cell? ⟨(ad.add (i * 9)).block, (ad.add (i * 9)).off + 6, none⟩ = some (slV x.lines) ∧ w.cell? ⟨(ad.add (i * 9)).block, (ad.add (i * 9)).off + 7, none⟩ = some (slV x.code) ∧ w.cell? ⟨(ad.add (i * 9)).block, (ad.add (i * 9)).off + 8, none⟩ = some (slV x.rel) := by
  have hl : i < l.length := by rw [h.1]; exact hi
  obtain ⟨ad, e, hb, hc⟩ := h.2.2.2.2 i _ (List.getElem?_eq_getElem hl)
  have f : ∀ j, 0 < j → (ad.add (i * 9)).add j = ⟨(ad.add (i * 9)).block, (ad.add (i * 9)).off + j, none⟩ := fun j hj => add_field _ j hj
  refine ⟨ad, l[i], e, List.getElem_mem hl, hc 0 _ rfl, ?_, ?_, ?_, ?_, ?_, ?_, ?_, ?_⟩
  · rw [← f 1 (by omega)]; exact hc 1 _ rfl
  · rw [← f 2 (by omega)]; exact hc 2 _ rfl
  · rw [← f 3 (by omega)]; exact hc 3 _ rfl
  · rw [← f 4 (by omega)]; exact hc 4 _ rfl
  · rw [← f 5 (by omega)]; exact hc 5 _ rfl
  · rw [← f 6 (by omega)]; exact hc 6 _ rfl
  · rw [← f 7 (by omega)]; exact hc 7 _ rfl
  · rw [← f 8 (by omega)]; exact hc 8 _ rfl
theorem dc_at {w : World} {B : Nat} {A : Option Addr} {n c : Nat} {l : List Dc} (h : Wd 3 encDc w B A n c l) {i : Nat} (hi : i < n) :
    ∃ ad x, A = some ad ∧ x ∈ l ∧ w.cell? (ad.add (i * 3)) = some (.int .i64 x.kd) ∧ w.cell? ⟨(ad.add (i * 3)).block, (ad.add (i * 3)).off + 1, none⟩ = some (slV x.words) ∧ w.cell? ⟨(ad.add (i * 3)).block, (ad.add (i * 3)).off + 2, none⟩ = some (slV x.rel) := by
  have hl : i < l.length := by rw [h.1]; exact hi
  obtain ⟨ad, e, hb, hc⟩ := h.2.2.2.2 i _ (List.getElem?_eq_getElem hl)
  have f : ∀ j, 0 < j → (ad.add (i * 3)).add j = ⟨(ad.add (i * 3)).block, (ad.add (i * 3)).off + j, none⟩ := fun j hj => add_field _ j hj
  refine ⟨ad, l[i], e, List.getElem_mem hl, hc 0 _ rfl, ?_, ?_⟩
  · rw [← f 1 (by omega)]; exact hc 1 _ rfl
  · rw [← f 2 (by omega)]; exact hc 2 _ rfl

set_option maxRecDepth 100000 in
set_option maxHeartbeats 4000000 in
theorem few19 (w : World) (B : Nat) (o : Ob) (hS : Wd 5 encSy w B o.A o.n o.c o.l) (hR : Rest w B o.F o.D) (hB : B ≤ w.heap.size) :
    Calls Try.prog 16 #[.agg #[.slice o.A o.n o.c, slV o.F, slV o.D]] w fun e w' => (∃ b, e = .returned (.bool b) ∧ (b = true → o.n ≤ 60 ∧ ∀ k, k < o.n → (syAt o.l k).1.size ≤ 300)) ∧ Below w.heap.size w w' := by
  obtain ⟨⟨fl, hF, hfl⟩, ⟨dl, hD, hdl⟩⟩ := hR
  obtain ⟨oA, on, oc, ol, ⟨fA, fn, fc⟩, ⟨dA, dn, dc⟩⟩ := o
  unfold slV
  dsimp only at hS hF hD ⊢
  have hon := hS.few
  have hfn := hF.few
  have hdn := hD.few
  obtain ⟨W0, hW0⟩ : ∃ W0, w.alloc (.cells #[.slice oA on oc, .slice fA fn fc, .slice dA dn dc] 40) = W0 := ⟨_, rfl⟩
  have hb0 : Below w.heap.size w W0 := hW0 ▸ (Below.refl _ _).alloc (Nat.le_refl _) _
  have hbk : Blk W0 w.heap.size 40 #[.slice oA on oc, .slice fA fn fc, .slice dA dn dc] := hW0 ▸ Blk.new _ _ _
  have hlt := hbk.lt
  have HX := Lib.hid (show ∀ W, Below W0.heap.size W0 W → W.cell? ⟨w.heap.size, 0, none⟩ = some (.slice oA on oc) ∧ W.cell? ⟨w.heap.size, 1, none⟩ = some (.slice fA fn fc) ∧ W.cell? ⟨w.heap.size, 2, none⟩ = some (.slice dA dn dc) from fun W hb => by
    have h2 : Blk W w.heap.size 40 #[.slice oA on oc, .slice fA fn fc, .slice dA dn dc] := hbk.below hb hlt
    exact ⟨h2.cell 0, h2.cell 1, h2.cell 2⟩)
  have HS := Lib.hid (fun W (hb : Below W0.heap.size W0 W) k (hk : k < on) => syl_at (hS.below ((hb0.mono hB).trans (hb.mono (Nat.le_trans hB hb0.size)))) hk)
  have HF := Lib.hid (fun W (hb : Below W0.heap.size W0 W) k (hk : k < fn) => fc_at (hF.below ((hb0.mono hB).trans (hb.mono (Nat.le_trans hB hb0.size)))) hk)
  have HD := Lib.hid (fun W (hb : Below W0.heap.size W0 W) k (hk : k < dn) => dc_at (hD.below ((hb0.mono hB).trans (hb.mono (Nat.le_trans hB hb0.size)))) hk)
  have HB0 := Lib.hid hb0
  have HFL := Lib.hid hfl
  have HDL := Lib.hid hdl
  clear hS hF hD hb0 hbk hfl hdl hlt hB
  go_enter Try.func16, Try.ntmps16
  go_wp2_with fail
  go_loopw [3] (fun v wr => ∃ k : Nat, k ≤ on ∧ v = .int .i64 (k : Int) ∧ (∀ j, j < k → (syAt ol j).1.size ≤ 300) ∧ Below W0.heap.size W0 wr) (fun v _ => on - (intOf v).toNat)
  case atStart => exact ⟨0, Nat.zero_le _, rfl, fun j hj => by omega, Below.refl _ _⟩
  case round =>
    obtain ⟨k, hk, rfl, hno, hbel⟩ := hrel
    obtain ⟨x0, x1, x2⟩ := HX.out wr hbel
    have HBE := Lib.hid (HB0.out.trans (hbel.mono HB0.out.size))
    by_cases hlt : k < on
    · have hkI : (k : Int) < (on : Int) := by omega
      have hk0 : (0 : Int) ≤ (k : Int) := by omega
      obtain ⟨ad2, rfl, hb2, s0, _, _, _, _⟩ := HS.out wr hbel k hlt
      obtain ⟨y, hy⟩ : ∃ y, (syAt ol k).1 = y := ⟨_, rfl⟩
      rw [hy] at s0
      by_cases h3 : y.size ≤ 300
      · have h3' : ¬ (300 : Int) < (y.size : Int) := by omega
        have HNO := Lib.hid (show ∀ j, j < k + 1 → (syAt ol j).1.size ≤ 300 from fun j hj => by
          by_cases e : j = k
          · subst e; rw [hy]; exact h3
          · exact hno j (by omega))
        clear hno hy h3
        go_wp2_with fail
        go_roundw
        case rel => exact ⟨k + 1, by omega, by go_num, HNO.out, hbel⟩
        case measure => simp [intOf]; omega
      · have h3' : (300 : Int) < (y.size : Int) := by omega
        clear hno hy h3
        go_wp2_with fail
        go_ret
        exact ⟨⟨false, rfl, fun h => by cases h⟩, HBE.out⟩
    · obtain rfl : k = on := by omega
      have HNO := Lib.hid hno
      have HBEL := Lib.hid hbel
      clear hno hbel
      obtain ⟨wz, hwz⟩ : ∃ wz, wz = wr := ⟨_, rfl⟩
      subst hwz
      go_wp2_with fail
      go_loopw [4] (fun v wr => ∃ j : Nat, j ≤ fn ∧ v = .int .i64 (j : Int) ∧ Below W0.heap.size W0 wr) (fun v _ => fn - (intOf v).toNat)
      case atStart => exact ⟨0, Nat.zero_le _, rfl, HBEL.out⟩
      case round =>
        obtain ⟨j, hj, rfl, hbel⟩ := hrel
        clear x0 x1 x2
        obtain ⟨x0, x1, x2⟩ := HX.out wr hbel
        have HBE := Lib.hid (HB0.out.trans (hbel.mono HB0.out.size))
        by_cases hjl : j < fn
        · have hjI : (j : Int) < (fn : Int) := by omega
          have hj0 : (0 : Int) ≤ (j : Int) := by omega
          by_cases h20 : 20 ≤ j
          · have h20' : (20 : Int) ≤ (j : Int) := by omega
            clear h20
            go_wp2_with fail
            go_ret
            exact ⟨⟨false, rfl, fun h => by cases h⟩, HBE.out⟩
          · have h20' : ¬ (20 : Int) ≤ (j : Int) := by omega
            clear h20
            obtain ⟨ad2, x, rfl, hx, c0, c1, c2, c3, c4, c5, c6, c7, c8⟩ := HF.out wr hbel j hjl
            obtain ⟨k1, k2, k3, k4⟩ := HFL.out x hx
            have HC := Lib.hid (few16 x wr k1 k2 k3 k4)
            obtain ⟨z0, ⟨kA, kn, kc⟩, z2, z3, z4, z5, ⟨lA, ln, lc⟩, ⟨cA, cn, cc⟩, ⟨rA, rn, rc⟩⟩ := x
            unfold encFc at HC
            unfold slV at c1 c6 c7 c8 HC
            dsimp only at c0 c1 c2 c3 c4 c5 c6 c7 c8 HC
            have HBL := Lib.hid hbel
            clear hx k1 k2 k3 k4 hbel
            go_wp2_with (go_at_call 24; refine HC.out.mono ?_; rintro e w2 ⟨⟨b, rfl⟩, hb2⟩; have HB2 := Lib.hid hb2; clear hb2; cases b)
            · go_wp2_with fail
              go_ret
              exact ⟨⟨false, rfl, fun h => by cases h⟩, HBE.out.trans (HB2.out.mono HBE.out.size)⟩
            · go_wp2_with fail
              go_roundw
              case rel => exact ⟨j + 1, by omega, by go_num, HBL.out.trans (HB2.out.mono HBL.out.size)⟩
              case measure => simp [intOf]; omega
        · obtain rfl : j = fn := by omega
          have HBEL2 := Lib.hid hbel
          clear hbel
          obtain ⟨wy, hwy⟩ : ∃ wy, wy = wr := ⟨_, rfl⟩
          subst hwy
          go_wp2_with fail
          go_loopw [5] (fun v wr => ∃ j : Nat, j ≤ dn ∧ v = .int .i64 (j : Int) ∧ Below W0.heap.size W0 wr) (fun v _ => dn - (intOf v).toNat)
          case atStart => exact ⟨0, Nat.zero_le _, rfl, HBEL2.out⟩
          case round =>
            obtain ⟨i, hi, rfl, hbel⟩ := hrel
            clear x0 x1 x2
            obtain ⟨x0, x1, x2⟩ := HX.out wr hbel
            have HBE := Lib.hid (HB0.out.trans (hbel.mono HB0.out.size))
            by_cases hil : i < dn
            · have hiI : (i : Int) < (dn : Int) := by omega
              have hi0 : (0 : Int) ≤ (i : Int) := by omega
              by_cases h20 : 20 ≤ i
              · have h20' : (20 : Int) ≤ (i : Int) := by omega
                clear h20
                go_wp2_with fail
                go_ret
                exact ⟨⟨false, rfl, fun h => by cases h⟩, HBE.out⟩
              · have h20' : ¬ (20 : Int) ≤ (i : Int) := by omega
                clear h20
                obtain ⟨ad2, x, rfl, hx, c0, c1, c2⟩ := HD.out wr hbel i hil
                obtain ⟨k1, k2⟩ := HDL.out x hx
                have HC := Lib.hid (few15 x wr k1 k2)
                obtain ⟨z0, ⟨kA, kn, kc⟩, ⟨rA, rn, rc⟩⟩ := x
                unfold encDc at HC
                unfold slV at c1 c2 HC
                dsimp only at c0 c1 c2 HC
                have HBL := Lib.hid hbel
                clear hx k1 k2 hbel
                go_wp2_with (go_at_call 25; refine HC.out.mono ?_; rintro e w2 ⟨⟨b, rfl⟩, hb2⟩; have HB2 := Lib.hid hb2; clear hb2; cases b)
                · go_wp2_with fail
                  go_ret
                  exact ⟨⟨false, rfl, fun h => by cases h⟩, HBE.out.trans (HB2.out.mono HBE.out.size)⟩
                · go_wp2_with fail
                  go_roundw
                  case rel => exact ⟨i + 1, by omega, by go_num, HBL.out.trans (HB2.out.mono HBL.out.size)⟩
                  case measure => simp [intOf]; omega
            · obtain rfl : i = dn := by omega
              obtain ⟨b, hb⟩ : ∃ b, decide ((k : Int) ≤ 60) = b := ⟨_, rfl⟩
              have HBB := Lib.hid (show b = true → k ≤ 60 from fun e => by subst e; have := of_decide_eq_true hb; omega)
              go_wp2_with fail
              go_ret
              exact ⟨⟨_, rfl, fun e => ⟨HBB.out e, HNO.out⟩⟩, HBE.out⟩

/-- Files that are few. -/
structure FewP (n : Nat) (os : List Ob) : Prop where
  n9 : n ≤ 9
  each : ∀ i, i < n → (obAt os i).n ≤ 60 ∧ ∀ k, k < (obAt os i).n → (syAt (obAt os i).l k).1.size ≤ 300

set_option maxRecDepth 100000 in
set_option maxHeartbeats 2000000 in
theorem few24 (A : Option Addr) (n c B : Nat) (os : List Ob) (w : World) (hO : ObL w B A n c os) (hR : ∀ i, i < n → Rest w B (obAt os i).F (obAt os i).D) (hB : B ≤ w.heap.size) :
    Calls Try.prog 6 #[.slice A n c] w fun e w' => (∃ b, e = .returned (.bool b) ∧ (b = true → FewP n os)) ∧ Below w.heap.size w w' := by
  have hn := hO.1.few
  have HO := Lib.hid hO
  have HR := Lib.hid hR
  have HB := Lib.hid hB
  clear hO hR hB
  go_enter Try.func6, Try.ntmps6
  go_wp2_with fail
  go_loopw [3] (fun v wr => ∃ k : Nat, k ≤ n ∧ v = .int .i64 (k : Int) ∧ (∀ i, i < k → (obAt os i).n ≤ 60 ∧ ∀ k, k < (obAt os i).n → (syAt (obAt os i).l k).1.size ≤ 300) ∧ Below w.heap.size w wr) (fun v _ => n - (intOf v).toNat)
  case atStart => exact ⟨0, Nat.zero_le _, rfl, fun j hj => by omega, Below.refl _ _⟩
  case round =>
    obtain ⟨k, hk, rfl, hno, hbel⟩ := hrel
    have HNO := Lib.hid hno
    have HBE := Lib.hid hbel
    clear hno hbel
    by_cases hlt : k < n
    · have hkI : (k : Int) < (n : Int) := by omega
      have hk0 : (0 : Int) ≤ (k : Int) := by omega
      have hO2 := HO.out.below (HBE.out.mono HB.out)
      obtain ⟨ad, rfl, hb, c0, c1, c2⟩ := hO2.at_ hlt
      have HC := Lib.hid (few19 wr B (obAt os k) (hO2.2 k hlt) ((HR.out k hlt).below (HBE.out.mono HB.out)) (Nat.le_trans HB.out HBE.out.size))
      have HEQ := Lib.hid (show ∀ i, i < k + 1 → i ≠ k → i < k from fun i h1 h2 => by omega)
      obtain ⟨o, ho⟩ : ∃ o, obAt os k = o := ⟨_, rfl⟩
      have HO2 := Lib.hid ho
      rw [ho] at c0 c1 c2 HC
      obtain ⟨oA, on, oc, ol, ⟨fA, fn, fc⟩, ⟨dA, dn, dc⟩⟩ := o
      unfold slV at c1 c2 HC
      dsimp only at c0 c1 c2 HC
      clear hO2 ho
      go_wp2_with (go_at_call 16; refine HC.out.mono ?_; rintro e w2 ⟨⟨b, rfl, hb3⟩, hb2⟩; have HB2 := Lib.hid hb2; have HB3 := Lib.hid hb3; clear hb2 hb3; cases b)
      · go_wp2_with fail
        go_ret
        exact ⟨⟨false, rfl, fun h => by cases h⟩, HBE.out.trans (HB2.out.mono HBE.out.size)⟩
      · go_wp2_with fail
        go_roundw
        case rel =>
          refine ⟨k + 1, by omega, by go_num, fun i hi => ?_, HBE.out.trans (HB2.out.mono HBE.out.size)⟩
          by_cases e : i = k
          · subst e
            rw [HO2.out]
            exact HB3.out (by simp)
          · exact HNO.out i (HEQ.out i hi e)
        case measure => simp [intOf]; omega
    · obtain rfl : k = n := by omega
      obtain ⟨b, hb⟩ : ∃ b, decide ((k : Int) ≤ 9) = b := ⟨_, rfl⟩
      have HBB := Lib.hid (show b = true → k ≤ 9 from fun e => by subst e; have := of_decide_eq_true hb; omega)
      go_wp2_with fail
      go_ret
      exact ⟨⟨_, rfl, fun e => ⟨HBB.out e, HNO.out⟩⟩, HBE.out⟩
end Go.Proofs.Ytmabenffdpipmaa.By
