/-
  WALKS of layer 29's laws: PlaceData.
-/
import Derived.Test.YtbcabomblfehlabUk
namespace Go.Proofs.Ytbcabomblfehlab.Bo
open Go.RowKit Go.Maps
open Mem Rf
set_option linter.unusedSimpArgs false
set_option linter.unusedVariables false

def nilP : Pn := ⟨none, 0, 0, [], none, 0, 0, []⟩
theorem nilP_in (w : World) : PnR w nilP := ⟨Wd.nil, Wd.nil⟩

theorem addrsL_at {P : Pgm} {k : Nat} (hk : k < P.dn) : (addrsL P).getD k 0 = stV (dzf P) 0 k := by
  unfold addrsL
  rw [List.getD_eq_getElem?_getD, List.getElem?_map, List.getElem?_range hk]; rfl

set_option maxRecDepth 100000 in
set_option maxHeartbeats 8000000 in
theorem data29_any (w : World) (A : Option Addr) (n c : Nat) (os : List Oj) (xs : Nat → Nat → By.Fn) (ws : Nat → Nat → List Int) (rs : Nat → Nat → List By.Rl) (h : OjsI w A n c os xs ws rs) :
    Calls Try.prog 5 #[.slice A n c] w fun e w' => e = .returned (.bool true) ∧ Below w.heap.size w w' := by
  have HFW := Lib.hid (fun W (hb : Below w.heap.size w W) => few29_any W A n c os xs ws rs (h.on hb) nilP (nilP_in _))
  clear h
  unfold pnV nilP at HFW
  dsimp only at HFW
  go_enter Try.func5, Try.ntmps5
  go_wp2_with (go_at_call 6; refine (HFW.out w (Below.refl _ _)).mono ?_; rintro e w2 ⟨P, b, rfl, hpp, hb2⟩; have HPP := Lib.hid hpp; have HB2 := Lib.hid hb2; clear hpp hb2; obtain ⟨fA, fn, fc, fs, dA, dn, dc, ds, en, cs⟩ := P; unfold pgV; dsimp only; cases b)
  · go_wp2_with (go_at_call 7; refine (known29_any _).mono ?_; rintro e w9 ⟨rfl, hb9⟩; have HB9 := Lib.hid hb9; clear hb9)
    go_ret
    exact ⟨rfl, to_ HB2.out (to_ (alloc_ _ _) HB9.out)⟩
  · have HPQ := Lib.hid (HPP.out (by trivial)).1
    clear HPP
    obtain ⟨P, hP⟩ : ∃ P : Pgm, P = ⟨fA, fn, fc, fs, dA, dn, dc, ds, en, cs⟩ := ⟨_, rfl⟩
    rw [← hP] at HPQ
    have HAT := Lib.hid (fun k => @addrsL_at P k)
    have HIN := Lib.hid (fun k hk => stV_in (f := 0) (dzf_in HPQ.out.rdD.wd) k hk)
    have HWD := Lib.hid HPQ.out.rdD.wd
    have HSTP := Lib.hid (fun k => show stV (dzf P) 0 (k + 1) = stV (dzf P) 0 k + (1 + ((gdAt P.ds k).D.words.2.1 : Int)) from rfl)
    have hst0 : stV (dzf P) 0 0 = 0 := rfl
    have HWE : Hid (stV (dzf P) 0 P.dn = wordsV P) := Lib.hid rfl
    have HAD := Lib.hid (fun W (hb : Below w2.heap.size w2 W) => addrs_any W P (HPQ.out.on hb).rdD)
    have HWO := Lib.hid (fun W (hb : Below w2.heap.size w2 W) => words_any W P (HPQ.out.on hb).rdD)
    have HC := Lib.hid (fun W (hb : Below w2.heap.size w2 W) k (hk : k < P.dn) => (show ∃ ad, P.dA = some ad ∧ W.cell? ⟨(ad.add (k * 7)).block, (ad.add (k * 7)).off + 4, none⟩ = some (slV (gdAt P.ds k).D.words) from by
      obtain ⟨ad, hA, _, _, hc⟩ := gd_at (HPQ.out.on hb).dr hk
      exact ⟨ad, hA, hc 3 _ rfl⟩))
    have hdn := HPQ.out.few.2
    obtain ⟨s, hs⟩ : ∃ s, stV (dzf P) 0 = s := ⟨_, rfl⟩
    rw [hs] at HAT HIN HSTP hst0 HWE
    obtain ⟨z, hz⟩ : ∃ z, wordsV P = z := ⟨_, rfl⟩
    rw [hz] at HWE HWO
    obtain ⟨al, hal⟩ : ∃ al, addrsL P = al := ⟨_, rfl⟩
    rw [hal] at HAT HAD
    clear hs hz hal HPQ
    subst hP
    unfold pgV at HAD HWO
    dsimp only at HAT HIN HWD HSTP HWE HAD HWO HC hdn
    obtain ⟨W4, hW4⟩ : ∃ x, w2.alloc (.cells #[.slice fA fn fc, .slice dA dn dc, .int .i64 en] 30) = x := ⟨_, rfl⟩
    rw [hW4]
    have HW4 := Lib.hid (show Below w2.heap.size w2 W4 from by rw [← hW4]; exact alloc_ _ _)
    have HPX := Lib.hid (show Blk W4 w2.heap.size 30 #[.slice fA fn fc, .slice dA dn dc, .int .i64 en] from by rw [← hW4]; exact Blk.new _ _ _)
    clear hW4
    have HX := Lib.hid (show ∀ W, Below W4.heap.size W4 W → W.cell? ⟨w2.heap.size, 0, none⟩ = some (.slice fA fn fc) ∧ W.cell? ⟨w2.heap.size, 1, none⟩ = some (.slice dA dn dc) ∧ W.cell? ⟨w2.heap.size, 2, none⟩ = some (.int .i64 en) from fun W hb => ⟨(HPX.out.below hb HPX.out.lt).cell 0, (HPX.out.below hb HPX.out.lt).cell 1, (HPX.out.below hb HPX.out.lt).cell 2⟩)
    obtain ⟨x0, x1, x2⟩ := HX.out W4 (Below.refl _ _)
    go_wp2_with (go_at_call 13; refine (HAD.out W4 HW4.out).mono ?_; rintro e w5 ⟨A5, c5, rfl, hil, hb5⟩; have HB5 := Lib.hid hb5; have HI5 := Lib.hid hil; clear hil hb5 x0 x1 x2; obtain ⟨x0, x1, x2⟩ := HX.out w5 HB5.out)
    clear x0 x1 x2
    have HB5W := Lib.hid (to_ HW4.out HB5.out)
    go_loopw [6, 7] (fun st i9 wr => ∃ k : Nat, k ≤ dn ∧ i9 = .int .i64 (k : Int) ∧ st = .int .i64 (s k) ∧ Below w5.heap.size w5 wr) (fun _ i9 _ => dn - (intOf i9).toNat)
    case atStart => exact ⟨0, Nat.zero_le _, rfl, by rw [hst0], Below.refl _ _⟩
    case round =>
      obtain ⟨k, hk, rfl, rfl, hbel⟩ := hrel
      obtain ⟨x0, x1, x2⟩ := HX.out wr (to_ HB5.out hbel)
      by_cases hlt : k < dn
      · have hkI : (k : Int) < (dn : Int) := by omega
        have hk0 : (0 : Int) ≤ (k : Int) := by omega
        obtain ⟨ae, rfl, hae, y0⟩ := (HI5.out.on hbel).at_ hlt
        rw [HAT.out k hlt] at y0
        obtain ⟨ad, rfl, c4⟩ := HC.out wr (to_ HB5W.out hbel) k hlt
        have h1 := HIN.out k (by omega)
        have h2 := HWD.out k hlt
        have h3 := HSTP.out k
        have HBE := Lib.hid hbel
        obtain ⟨⟨xA, xn, xc⟩, hx⟩ : ∃ x, (gdAt ds k).D.words = x := ⟨_, rfl⟩
        rw [hx] at h2 h3 c4
        unfold slV at c4
        dsimp only at h2 h3 c4
        obtain ⟨x, hx⟩ : ∃ x, s k = x := ⟨_, rfl⟩
        rw [hx] at h1 h3 y0 ⊢
        have hs1 : IntKind.i64.wrap (x + 1) = x + 1 := IntWalk.i64_in _ (by omega)
        have hs2 : IntKind.i64.wrap (x + 1 + (xn : Int)) = x + 1 + (xn : Int) := IntWalk.i64_in _ (by omega)
        have hxx : (x != x) = false := by simp
        have H3 := Lib.hid (show s (k + 1) = x + 1 + (xn : Int) by omega)
        clear hx h1 h2 h3 hbel hae
        go_wp2_with fail
        go_roundw
        case rel => exact ⟨k + 1, by omega, by go_num, by rw [H3.out], HBE.out⟩
        case measure => simp [intOf]; omega
      · obtain rfl : k = dn := by omega
        rw [HWE.out]
        have hzz : (z == z) = true := by simp
        have HBE := Lib.hid (to_ HB5W.out hbel)
        clear hbel
        go_wp2_with (go_at_call 15; refine (HWO.out wr HBE.out).mono ?_; rintro e w7 ⟨rfl, hb7⟩; have HB7 := Lib.hid (to_ HBE.out hb7); clear hb7; go_wp2_with (go_at_call 7; refine (known29_any _).mono ?_; rintro e w9 ⟨rfl, hb9⟩; have HB9 := Lib.hid hb9; clear hb9))
        go_ret
        exact ⟨rfl, to_ HB2.out (to_ HB7.out HB9.out)⟩
end Go.Proofs.Ytbcabomblfehlab.Bo
