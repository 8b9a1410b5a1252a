/-
  WALKS of layer 15: Check, the program's.
-/
import Derived.Test.YthkbdclnnpcoiaaDoorEk
namespace Go.Proofs.YthkbdclnnpcoiaaDoor.By
open Go.RowKit
open Mem Gm Rf
set_option linter.unusedSimpArgs false
set_option linter.unusedVariables false

/-- The first that is not 0. -/
def firF (f : Nat → Int) : Nat → Nat → Int
  | _, 0 => 0
  | k, m + 1 => if f k ≠ 0 then f k else firF f (k + 1) m
theorem firF_skip (f : Nat → Int) : ∀ (d k m : Nat), (∀ j, k ≤ j → j < k + d → f j = 0) → firF f k (d + m) = firF f (k + d) m
  | 0, k, m, _ => by rw [Nat.zero_add]; rfl
  | d + 1, k, m, h => by
    rw [show d + 1 + m = (d + m) + 1 by omega, firF, if_neg (by rw [h k (by omega) (by omega)]; decide), firF_skip f d (k + 1) m fun j h1 h2 => h j (by omega) (by omega), show k + 1 + d = k + (d + 1) by omega]
theorem fir_bad {f : Nat → Int} {n k : Nat} (hk : k < n) (h : ∀ j, j < k → f j = 0) (hb : f k ≠ 0) : firF f 0 n = f k := by
  obtain ⟨m, rfl⟩ : ∃ m, n = k + (m + 1) := ⟨n - k - 1, by omega⟩
  rw [firF_skip f k 0 (m + 1) fun j _ h2 => h j (by omega), Nat.zero_add, firF, if_pos hb]
theorem fir_all {f : Nat → Int} {n : Nat} (h : ∀ j, j < n → f j = 0) : firF f 0 n = 0 := by
  have := firF_skip f n 0 0 fun j _ h2 => h j (by omega)
  rw [Nat.add_zero] at this
  rw [this]; rfl

def nzB (ws : List Int) : Bool := ws.any fun w => w != 0
def chkD (kd : Int) (ws : List Int) (nS : Nat) (rs : List Rl) (ss : List Sy) : Int :=
  if Si.kindB kd = false then 8 else if 32 < ws.length then 6 else if (kd != 0 && nzB ws) = true then 2 else firF (fE kd ws.length nS rs ss) 0 rs.length

theorem notZ_any (x : Int) (w : World) : Calls Tryd.prog 24 #[.int .i64 x] w fun e w' => e = .returned (.bool (x != 0)) ∧ w = w' := by
  obtain ⟨b, hb⟩ : ∃ b, (x != 0) = b := ⟨_, rfl⟩
  rw [hb]
  go_enter Tryd.func24, Tryd.ntmps24
  go_wp2_with fail
  go_ret
  exact ⟨rfl, rfl⟩

theorem nz_first {ws : List Int} {k : Nat} (hk : k < ws.length) (h : (el ws k != 0) = true) : nzB ws = true := by
  unfold nzB
  rw [List.any_eq_true]
  exact ⟨ws[k], List.getElem_mem hk, by rw [el_at hk]; exact h⟩
theorem nz_none {ws : List Int} (h : ∀ j, j < ws.length → (el ws j != 0) = false) : nzB ws = false := by
  unfold nzB
  rw [List.any_eq_false]
  intro x hx
  obtain ⟨j, hj, rfl⟩ := List.getElem_of_mem hx
  rw [el_at hj, h j hj]; decide

set_option maxRecDepth 100000 in
theorem idxZ_any (w : World) (A : Option Addr) (n c : Nat) (ws : List Int) (h : IW w (.slice A n c) ws) (hL : ws.length = n) (hn : n ≤ 1000000) :
    Calls Tryd.prog 47 #[.slice A n c, .func (.func 24) #[] #[]] w fun e w' => ∃ z : Int, e = .returned (.int .i64 z) ∧ decide (0 ≤ z) = nzB ws ∧ w = w' := by
  have HC := Lib.hid (fun i (hi : i < n) => iw_cell h hL hi)
  have HF := Lib.hid (fun x W => notZ_any x W)
  have HL := Lib.hid hL
  clear h hL
  go_enter Tryd.func47, Tryd.ntmps47
  go_wp2_with fail
  go_loop [8] (fun i => ∃ k : Nat, k ≤ n ∧ i = .int .i64 (k : Int) ∧ Hid (∀ j, j < k → (el ws j != 0) = false)) (fun i => n - (intOf i).toNat)
  case atStart => exact ⟨0, Nat.zero_le _, rfl, Lib.hid fun j hj => by omega⟩
  case round =>
    obtain ⟨k, hk, rfl, HO⟩ := hrel
    by_cases hlt : k < n
    · have hkI : (k : Int) < (n : Int) := by omega
      obtain ⟨ad, rfl, _, c0⟩ := HC.out k hlt
      have HX := Lib.hid (HF.out (el ws k))
      obtain ⟨b, hb⟩ : ∃ b, (el ws k != 0) = b := ⟨_, rfl⟩
      rw [hb] at HX
      cases b with
      | true =>
        have HV := Lib.hid (nz_first (by rw [HL.out]; exact hlt) hb)
        clear hb
        generalize el ws k = x at c0 HX
        go_wp2_with (go_at_call 24; refine (HX.out _).mono ?_; rintro e w9 ⟨rfl, rfl⟩)
        go_ret
        exact ⟨(k : Int), rfl, by rw [HV.out]; simp, rfl⟩
      | false =>
        have HO2 := Lib.hid (show ∀ j, j < k + 1 → (el ws j != 0) = false from fun j hj => by
          by_cases e : j = k
          · subst e; exact hb
          · exact HO.out j (by omega))
        clear hb HO
        generalize el ws k = x at c0 HX
        go_wp2_with (go_at_call 24; refine (HX.out _).mono ?_; rintro e w9 ⟨rfl, rfl⟩)
        go_round
        case rel => exact ⟨k + 1, by omega, by go_num, HO2⟩
        case measure => simp [intOf]; omega
    · obtain rfl : k = n := by omega
      have HV := Lib.hid (nz_none (ws := ws) fun j hj => HO.out j (by rw [HL.out] at hj; exact hj))
      go_wp2_with fail
      go_ret
      exact ⟨-1, rfl, by rw [HV.out]; decide, rfl⟩

theorem hasZ_any (w : World) (A : Option Addr) (n c : Nat) (ws : List Int) (h : IW w (.slice A n c) ws) (hL : ws.length = n) (hn : n ≤ 1000000) :
    Calls Tryd.prog 23 #[.slice A n c, .func (.func 24) #[] #[]] w fun e w' => e = .returned (.bool (nzB ws)) ∧ w = w' := by
  have HI := Lib.hid (idxZ_any w A n c ws h hL hn)
  obtain ⟨zb, hzb⟩ : ∃ b, nzB ws = b := ⟨_, rfl⟩
  rw [hzb] at HI ⊢
  clear h hL hn hzb
  go_enter Tryd.func23, Tryd.ntmps23
  go_wp2_with fail
  refine HI.out.mono ?_
  rintro e w9 ⟨z, rfl, hz, rfl⟩
  have HZ := Lib.hid hz
  clear hz
  go_wp2_with fail
  go_ret
  exact ⟨by rw [← HZ.out]; rfl, rfl⟩

theorem text_kind (kd : Int) : (ByteArray.toList (Si.textV kd)).isEmpty = !Si.kindB kd := by
  unfold Si.textV Si.kindB
  by_cases h : 0 ≤ kd ∧ kd ≤ 8
  · rw [if_pos h, decide_eq_true h]
    have h9 : ∀ i : Fin 9, (ByteArray.toList (Si.txB i.val)).isEmpty = false := by decide +kernel
    have := h9 ⟨kd.toNat, by omega⟩
    simpa using this
  · rw [if_neg h, decide_eq_false h]; decide +kernel

set_option maxRecDepth 100000 in
set_option maxHeartbeats 1000000 in
theorem checkD_any (w : World) (kd : Int) (AW AR AS : Option Addr) (nW cW nR cR nS cS : Nat) (ws : List Int) (rs : List Rl) (ss : List Sy) (hlo : -9223372036854775808 ≤ kd) (hhi : kd ≤ 9223372036854775807) (hT : Si.Txs w) (h1 : IW w (.slice AW nW cW) ws) (hL : ws.length = nW) (hn : nW ≤ 1000000) (h2 : RlL w AR nR cR rs) (hR : nR ≤ 1000000) (h3 : SyL w AS nS cS ss) :
    Calls Tryd.prog 8 #[.agg #[.int .i64 kd, .slice AW nW cW, .slice AR nR cR], .slice AS nS cS] w (CkD (chkD kd ws nS rs ss) w) := by
  have hRL : rs.length = nR := h2.1
  obtain ⟨W1, hW1⟩ : ∃ W1, w.alloc (.cells #[.int .i64 kd, .slice AW nW cW, .slice AR nR cR] 25) = W1 := ⟨_, rfl⟩
  have hsz1 : w.heap.size < W1.heap.size := by rw [← hW1]; simp
  have hB0 : Below w.heap.size w W1 := by rw [← hW1]; exact alloc_ _ _
  have HB0 := Lib.hid hB0
  have HX := Lib.hid (show ∀ W, Below W1.heap.size W1 W → Blk W w.heap.size 25 #[.int .i64 kd, .slice AW nW cW, .slice AR nR cR] from fun W hb => (hb.block _ hsz1).trans (by rw [← hW1]; exact Blk.new w _ _))
  have HTX := Lib.hid (Si.text_any kd W1 (hT.below hB0))
  have HZ := Lib.hid (hasZ_any W1 AW nW cW ws (h1.on hB0) hL hn)
  have HFS := Lib.hid (faults_any W1 kd AW AR AS nW cW nR cR nS cS hlo hhi)
  have HFO := Lib.hid (fun W (hb : Below w.heap.size w W) (q : Nat) (hf : FL W q kd AW AR AS nW cW nR cR nS cS) i (hi : i < nR) => faultOf_any hf (h2.on hb) (h3.on hb) i hi hR)
  have HV := Lib.hid (show chkD kd ws nS rs ss = if Si.kindB kd = false then 8 else if 32 < nW then 6 else if (kd != 0 && nzB ws) = true then 2 else firF (fE kd nW nS rs ss) 0 nR from by unfold chkD; rw [hL, hRL])
  have hte := text_kind kd
  obtain ⟨kb, hkb⟩ : ∃ b, Si.kindB kd = b := ⟨_, rfl⟩
  rw [hkb] at hte HV
  generalize Si.textV kd = y at hte HTX
  obtain ⟨zb, hzb⟩ : ∃ b, nzB ws = b := ⟨_, rfl⟩
  rw [hzb] at HZ HV
  obtain ⟨c0, c1, c2⟩ := blk3 (HX.out W1 (Below.refl _ _))
  clear hB0 hT h1 hL hn h2 h3 hkb hzb hlo hhi hRL
  cases kb with
  | false =>
    have hte2 : (ByteArray.toList y).isEmpty = true := hte
    clear hte
    go_enter Tryd.func8, Tryd.ntmps8
    go_wp2_with (go_at_call 22; refine HTX.out.mono ?_; rintro e w9 ⟨rfl, rfl⟩)
    go_ret
    exact ⟨by rw [HV.out]; rfl, HB0.out⟩
  | true =>
    have hte2 : (ByteArray.toList y).isEmpty = false := hte
    clear hte
    by_cases hl : 32 < nW
    · have hlI : (32 : Int) < (nW : Int) := by omega
      have HR := Lib.hid (show chkD kd ws nS rs ss = 6 from by rw [HV.out, if_neg (by decide), if_pos hl])
      go_enter Tryd.func8, Tryd.ntmps8
      go_wp2_with (go_at_call 22; refine HTX.out.mono ?_; rintro e w9 ⟨rfl, rfl⟩)
      go_ret
      exact ⟨by rw [HR.out]; rfl, HB0.out⟩
    · have hlI : ¬ (32 : Int) < (nW : Int) := by omega
      have HV2 := Lib.hid (show chkD kd ws nS rs ss = if (kd != 0 && zb) = true then 2 else firF (fE kd nW nS rs ss) 0 nR from by rw [HV.out, if_neg (by decide), if_neg hl])
      by_cases hk : kd = 0
      · have hkb : (kd != 0) = false := by simpa using hk
        have HR := Lib.hid (show chkD kd ws nS rs ss = firF (fE kd nW nS rs ss) 0 nR from by rw [HV2.out, hkb]; rfl)
        clear hk
        go_enter Tryd.func8, Tryd.ntmps8
        go_wp2_with (go_at_call 22; refine HTX.out.mono ?_; rintro e w9 ⟨rfl, rfl⟩)
        clear hW1
        refine HFS.out.mono ?_
        rintro e w2 ⟨rfl, hfl, b2⟩
        have HFL := Lib.hid hfl
        have HB2 := Lib.hid b2
        clear hfl b2
        obtain ⟨c0, c1, c2⟩ := blk3 (HX.out w2 HB2.out)
        go_wp2_with fail
        go_loopw [30] (fun i wr => ∃ k : Nat, k ≤ nR ∧ i = .int .i64 (k : Int) ∧ Below w2.heap.size w2 wr ∧ Hid (∀ j, j < k → fE kd nW nS rs ss j = 0)) (fun i _ => nR - (intOf i).toNat)
        case atStart => exact ⟨0, Nat.zero_le _, rfl, Below.refl _ _, Lib.hid fun j hj => by omega⟩
        case round =>
          obtain ⟨k, hk, rfl, hbel, HO⟩ := hrel
          have HBE := Lib.hid hbel
          clear hbel
          by_cases hlt : k < nR
          · have hkI : (k : Int) < (nR : Int) := by omega
            have HC := Lib.hid (HFO.out wr (to_ HB0.out (to_ HB2.out HBE.out)) _ (HFL.out.on HBE.out) k hlt)
            obtain ⟨x, hx⟩ : ∃ x, fE kd nW nS rs ss k = x := ⟨_, rfl⟩
            rw [hx] at HC
            by_cases h0 : x = 0
            · have HO2 := Lib.hid (show ∀ j, j < k + 1 → fE kd nW nS rs ss j = 0 from fun j hj => by
                by_cases e : j = k
                · subst e; rw [hx]; exact h0
                · exact HO.out j (by omega))
              subst h0
              clear hx HO
              go_wp2_with (go_at_call 26; refine HC.out.mono ?_; rintro e w9 ⟨rfl, b9⟩; have HB9 := Lib.hid b9; clear b9)
              go_roundw
              case rel => exact ⟨k + 1, by omega, by go_num, to_ HBE.out HB9.out, HO2⟩
              case measure => simp [intOf]; omega
            · have HF := Lib.hid (show chkD kd ws nS rs ss = x from by rw [HR.out, fir_bad hlt HO.out (by rw [hx]; exact h0), hx])
              have hxb : (x != 0) = true := by simpa using h0
              clear hx h0 HO
              go_wp2_with (go_at_call 26; refine HC.out.mono ?_; rintro e w9 ⟨rfl, b9⟩; have HB9 := Lib.hid b9; clear b9)
              go_ret
              exact ⟨by rw [HF.out]; rfl, to_ HB0.out (to_ (to_ HB2.out HBE.out) HB9.out)⟩
          · obtain rfl : k = nR := by omega
            have HF := Lib.hid (show chkD kd ws nS rs ss = 0 from by rw [HR.out, fir_all HO.out])
            go_wp2_with fail
            go_ret
            exact ⟨by rw [HF.out]; rfl, to_ HB0.out (to_ HB2.out HBE.out)⟩
      · have hkb : (kd != 0) = true := by simpa using hk
        clear hk
        cases zb with
        | true =>
          have HR := Lib.hid (show chkD kd ws nS rs ss = 2 from by rw [HV2.out, hkb]; rfl)
          go_enter Tryd.func8, Tryd.ntmps8
          go_wp2_with (first | (go_at_call 22; refine HTX.out.mono ?_; rintro e w9 ⟨rfl, rfl⟩) | (go_at_call 23; refine HZ.out.mono ?_; rintro e w9 ⟨rfl, rfl⟩))
          go_ret
          exact ⟨by rw [HR.out]; rfl, HB0.out⟩
        | false =>
          have HR := Lib.hid (show chkD kd ws nS rs ss = firF (fE kd nW nS rs ss) 0 nR from by rw [HV2.out, hkb]; rfl)
          go_enter Tryd.func8, Tryd.ntmps8
          go_wp2_with (first | (go_at_call 22; refine HTX.out.mono ?_; rintro e w9 ⟨rfl, rfl⟩) | (go_at_call 23; refine HZ.out.mono ?_; rintro e w9 ⟨rfl, rfl⟩))
          clear hW1
          refine HFS.out.mono ?_
          rintro e w2 ⟨rfl, hfl, b2⟩
          have HFL := Lib.hid hfl
          have HB2 := Lib.hid b2
          clear hfl b2
          obtain ⟨c0, c1, c2⟩ := blk3 (HX.out w2 HB2.out)
          go_wp2_with fail
          go_loopw [30] (fun i wr => ∃ k : Nat, k ≤ nR ∧ i = .int .i64 (k : Int) ∧ Below w2.heap.size w2 wr ∧ Hid (∀ j, j < k → fE kd nW nS rs ss j = 0)) (fun i _ => nR - (intOf i).toNat)
          case atStart => exact ⟨0, Nat.zero_le _, rfl, Below.refl _ _, Lib.hid fun j hj => by omega⟩
          case round =>
            obtain ⟨k, hk, rfl, hbel, HO⟩ := hrel
            have HBE := Lib.hid hbel
            clear hbel
            by_cases hlt : k < nR
            · have hkI : (k : Int) < (nR : Int) := by omega
              have HC := Lib.hid (HFO.out wr (to_ HB0.out (to_ HB2.out HBE.out)) _ (HFL.out.on HBE.out) k hlt)
              obtain ⟨x, hx⟩ : ∃ x, fE kd nW nS rs ss k = x := ⟨_, rfl⟩
              rw [hx] at HC
              by_cases h0 : x = 0
              · have HO2 := Lib.hid (show ∀ j, j < k + 1 → fE kd nW nS rs ss j = 0 from fun j hj => by
                  by_cases e : j = k
                  · subst e; rw [hx]; exact h0
                  · exact HO.out j (by omega))
                subst h0
                clear hx HO
                go_wp2_with (go_at_call 26; refine HC.out.mono ?_; rintro e w9 ⟨rfl, b9⟩; have HB9 := Lib.hid b9; clear b9)
                go_roundw
                case rel => exact ⟨k + 1, by omega, by go_num, to_ HBE.out HB9.out, HO2⟩
                case measure => simp [intOf]; omega
              · have HF := Lib.hid (show chkD kd ws nS rs ss = x from by rw [HR.out, fir_bad hlt HO.out (by rw [hx]; exact h0), hx])
                have hxb : (x != 0) = true := by simpa using h0
                clear hx h0 HO
                go_wp2_with (go_at_call 26; refine HC.out.mono ?_; rintro e w9 ⟨rfl, b9⟩; have HB9 := Lib.hid b9; clear b9)
                go_ret
                exact ⟨by rw [HF.out]; rfl, to_ HB0.out (to_ (to_ HB2.out HBE.out) HB9.out)⟩
            · obtain rfl : k = nR := by omega
              have HF := Lib.hid (show chkD kd ws nS rs ss = 0 from by rw [HR.out, fir_all HO.out])
              go_wp2_with fail
              go_ret
              exact ⟨by rw [HF.out]; rfl, to_ HB0.out (to_ HB2.out HBE.out)⟩
end Go.Proofs.YthkbdclnnpcoiaaDoor.By
