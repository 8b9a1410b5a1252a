/-
  WALKS of layer 28: how many instructions a function has in an image: the program's, and the document's.
-/
import Derived.Test.YtbcabomblfehlabTe
namespace Go.Proofs.Ytbcabomblfehlab.Bo
open Go.RowKit Go.Maps
open Mem Rf
set_option linter.unusedSimpArgs false
set_option linter.unusedVariables false

def keptV (P : Pgm) (p : Pn) (i : Int) : Bool := decide (0 ≤ i ∧ i < (P.fn : Int) ∧ p.ks.getD i.toNat false = true)
def chkV (p : Pn) (i : Int) : Int := if 0 ≤ i then p.cs.getD i.toNat 0 else 0
theorem sizeV_is (P : Pgm) (p : Pn) (i : Int) : sizeV P p i = if keptV P p i = true then ((gfAt P.fs i.toNat).F.code.2.1 : Int) + 1 + (if chkV p i ≠ 0 then 1 else 0) else 0 := by
  unfold sizeV keptV
  by_cases h : 0 ≤ i ∧ i < (P.fn : Int) ∧ p.ks.getD i.toNat false = true
  · have hd : decide (0 ≤ i ∧ i < (P.fn : Int) ∧ p.ks.getD i.toNat false = true) = true := decide_eq_true h
    have hc : chkV p i = p.cs.getD i.toNat 0 := if_pos h.1
    rw [if_pos h, hd, hc, if_pos rfl]
  · have hd : decide (0 ≤ i ∧ i < (P.fn : Int) ∧ p.ks.getD i.toNat false = true) = false := decide_eq_false h
    rw [if_neg h, hd]; rfl
theorem sizeV_no {P : Pgm} {p : Pn} {i : Int} (h : keptV P p i = false) : sizeV P p i = 0 := by rw [sizeV_is, h]; rfl
theorem sizeV_yes {P : Pgm} {p : Pn} {k : Nat} (h : keptV P p (k : Int) = true) : sizeV P p (k : Int) = ((gfAt P.fs k).F.code.2.1 : Int) + 1 + (if p.cs.getD k 0 ≠ 0 then 1 else 0) := by
  rw [sizeV_is, h, if_pos rfl]
  have hc : chkV p (k : Int) = p.cs.getD (k : Int).toNat 0 := if_pos (Int.natCast_nonneg _)
  rw [hc, Int.toNat_natCast]
/-- The code's place among a function's cells. -/
theorem code_at {w : World} {B : Nat} {A : Option Addr} {n c : Nat} {l : List Gf} (h : Wd 13 encGf w B A n c l) {i : Nat} (hi : i < n) :
    ∃ ad, A = some ad ∧ ad.block < B ∧ w.cell? ⟨(ad.add (i * 13)).block, (ad.add (i * 13)).off + 10, none⟩ = some (.slice (gfAt l i).F.code.1 (gfAt l i).F.code.2.1 (gfAt l i).F.code.2.2) := by
  obtain ⟨ad, e, hb, _, hc⟩ := gf_at h hi
  exact ⟨ad, e, hb, hc 9 _ rfl⟩

set_option maxRecDepth 100000 in
set_option maxHeartbeats 2000000 in
theorem size_any (w : World) (P : Pgm) (hfr : Wd 13 encGf w w.heap.size P.fA P.fn P.fc P.fs) (hfn : P.fn ≤ 1000) (hcd : ∀ a, a < P.fn → (gfAt P.fs a).F.code.2.1 ≤ 1000) (p : Pn) (hp : PnR w p) (i : Int) :
    Calls Try.prog 41 #[pgV P, pnV p, .int .i64 i] w fun e w' => e = .returned (.int .i64 (sizeV P p i)) ∧ Below w.heap.size w w' := by
  have HC := Lib.hid (fun W (hb : Below w.heap.size w W) a (ha : a < P.fn) => code_at (hfr.below hb) ha)
  have HM := Lib.hid (fun W (hb : Below w.heap.size w W) a => marked_any W p.kA p.kn p.kc p.ks (hp.k.on hb) a)
  have HI := Lib.hid (fun W (hb : Below w.heap.size w W) a (ha : a < p.cn) => (hp.c.on hb).at_ ha)
  have HCO := Lib.hid (show ∀ a, p.cn ≤ a → p.cs.getD a 0 = 0 from fun a ha => getD_out (by rw [hp.c.1]; exact ha))
  have hcn := hp.c.few
  have HSN := Lib.hid (@sizeV_no P p i)
  have HSY := Lib.hid (fun k => @sizeV_yes P p k)
  have HKV := Lib.hid (show ∀ j, keptV P p j = decide (0 ≤ j ∧ j < (P.fn : Int) ∧ p.ks.getD j.toNat false = true) from fun j => rfl)
  have HCD := Lib.hid hcd
  clear hfr hp hcd
  generalize hS : sizeV P p i = S
  have HS := Lib.hid hS
  clear hS
  obtain ⟨sv, hsv⟩ : ∃ sv, sizeV P p = sv := ⟨_, rfl⟩
  obtain ⟨kv, hkv⟩ : ∃ kv, keptV P p = kv := ⟨_, rfl⟩
  rw [hsv] at HS HSN HSY
  rw [hkv] at HSN HSY HKV
  clear hsv hkv
  obtain ⟨fA, fn, fc, fs, dA, dn, dc, ds, en, cs⟩ := P
  obtain ⟨kA, kn, kc, ks, cA, cn, cc, cl⟩ := p
  unfold pgV pnV
  dsimp only at HC HM HI HCO HSY HKV HCD hfn hcn ⊢
  obtain ⟨W0, hW0⟩ : ∃ W0, (w.alloc (.cells #[.slice fA fn fc, .slice dA dn dc, .int .i64 en] 30)).alloc (.cells #[.slice kA kn kc, .slice cA cn cc] 26) = W0 := ⟨_, rfl⟩
  have HB0 := Lib.hid (show Below w.heap.size w W0 from by rw [← hW0]; exact to_ (alloc_ _ _) (alloc_ _ _))
  have hk1 : Blk W0 w.heap.size 30 #[.slice fA fn fc, .slice dA dn dc, .int .i64 en] := by rw [← hW0]; exact (Blk.new _ _ _).alloc _
  have hk2 : Blk W0 (w.heap.size + 1) 26 #[.slice kA kn kc, .slice cA cn cc] := by
    rw [← hW0]
    have := Blk.new (w.alloc (.cells #[.slice fA fn fc, .slice dA dn dc, .int .i64 en] 30)) 26 #[.slice kA kn kc, .slice cA cn cc]
    rwa [World.size_alloc] at this
  have b0 : W0.cell? ⟨w.heap.size, 0, none⟩ = some (.slice fA fn fc) := hk1.cell 0
  have b1 : W0.cell? ⟨w.heap.size, 1, none⟩ = some (.slice dA dn dc) := hk1.cell 1
  have b2 : W0.cell? ⟨w.heap.size, 2, none⟩ = some (.int .i64 en) := hk1.cell 2
  have d0 : W0.cell? ⟨w.heap.size + 1, 0, none⟩ = some (.slice kA kn kc) := hk2.cell 0
  have d1 : W0.cell? ⟨w.heap.size + 1, 1, none⟩ = some (.slice cA cn cc) := hk2.cell 1
  clear hk1 hk2
  by_cases h0 : i < 0
  · have HZ := Lib.hid (show S = 0 from by rw [← HS.out]; exact HSN.out (by rw [HKV.out]; simp; omega))
    go_enter Try.func41, Try.ntmps41
    go_wp2_with fail
    go_ret
    exact ⟨by rw [HZ.out]; rfl, HB0.out⟩
  · obtain ⟨k, rfl⟩ := Int.eq_ofNat_of_zero_le (show 0 ≤ i by omega)
    have hk0 : (0 : Int) ≤ (k : Int) := by omega
    clear h0
    by_cases h1 : k < fn
    · have h1I : (k : Int) < (fn : Int) := by omega
      have HMK := Lib.hid (HM.out W0 HB0.out k)
      have hkk := HKV.out (k : Int)
      rw [Int.toNat_natCast] at hkk
      obtain ⟨b, hb⟩ : ∃ b, ks.getD k false = b := ⟨_, rfl⟩
      rw [hb] at HMK hkk
      clear hb
      cases b with
      | false =>
        have HZ := Lib.hid (show S = 0 from by rw [← HS.out]; exact HSN.out (by rw [hkk]; simp))
        clear hkk
        go_enter Try.func41, Try.ntmps41
        go_wp2_with (go_at_call 61; refine HMK.out.mono ?_; rintro e w2 ⟨rfl, rfl⟩)
        go_ret
        exact ⟨by rw [HZ.out]; rfl, HB0.out⟩
      | true =>
        have hz := HSY.out k (by rw [hkk]; simp; omega)
        rw [HS.out] at hz
        clear hkk
        obtain ⟨ad, rfl, hb9, c10⟩ := HC.out W0 HB0.out k h1
        have hc9 := HCD.out k h1
        obtain ⟨⟨xA, xn, xc⟩, hx⟩ : ∃ x, (gfAt fs k).F.code = x := ⟨_, rfl⟩
        rw [hx] at c10 hz hc9
        dsimp only at c10 hz hc9
        clear hx
        by_cases h2 : k < cn
        · have h2I : (k : Int) < (cn : Int) := by omega
          obtain ⟨bd, rfl, hb8, c20⟩ := HI.out W0 HB0.out k h2
          obtain ⟨z, hz9⟩ : ∃ z, cl.getD k 0 = z := ⟨_, rfl⟩
          rw [hz9] at c20 hz
          clear hz9
          by_cases h3 : z = 0
          · subst h3
            have HZ := Lib.hid (show S = (xn : Int) + 1 from by rw [hz]; simp)
            clear hz
            go_enter Try.func41, Try.ntmps41
            go_wp2_with (go_at_call 61; refine HMK.out.mono ?_; rintro e w2 ⟨rfl, rfl⟩)
            go_ret
            exact ⟨by rw [HZ.out]; rfl, HB0.out⟩
          · have h3' : (z == 0) = false := by simpa using h3
            have HZ := Lib.hid (show S = (xn : Int) + 1 + 1 from by rw [hz, if_pos h3])
            clear hz h3
            go_enter Try.func41, Try.ntmps41
            go_wp2_with (go_at_call 61; refine HMK.out.mono ?_; rintro e w2 ⟨rfl, rfl⟩)
            go_ret
            exact ⟨by rw [HZ.out]; rfl, HB0.out⟩
        · have h2I : ¬ (k : Int) < (cn : Int) := by omega
          have HZ := Lib.hid (show S = (xn : Int) + 1 from by rw [hz, HCO.out k (by omega)]; simp)
          clear hz
          go_enter Try.func41, Try.ntmps41
          go_wp2_with (go_at_call 61; refine HMK.out.mono ?_; rintro e w2 ⟨rfl, rfl⟩)
          go_ret
          exact ⟨by rw [HZ.out]; rfl, HB0.out⟩
    · have h1I : ¬ (k : Int) < (fn : Int) := by omega
      have HZ := Lib.hid (show S = 0 from by rw [← HS.out]; exact HSN.out (by rw [HKV.out]; simp; omega))
      go_enter Try.func41, Try.ntmps41
      go_wp2_with fail
      go_ret
      exact ⟨by rw [HZ.out]; rfl, HB0.out⟩

set_option maxRecDepth 100000 in
set_option maxHeartbeats 2000000 in
theorem rkept_any (w : World) (P : Pgm) (p : Pn) (hp : PnR w p) (hfn : P.fn ≤ 1000) (i : Int) :
    Calls Try.prog 26 #[pgV P, pnV p, .int .i64 i] w fun e w' => e = .returned (.bool (keptV P p i)) ∧ Below w.heap.size w w' := by
  have HI := Lib.hid (fun W (hb : Below w.heap.size w W) a (ha : a < p.kn) => (hp.k.on hb).at_ ha)
  have HCO := Lib.hid (show ∀ a, p.kn ≤ a → p.ks.getD a false = false from fun a ha => getD_out (by rw [hp.k.1]; exact ha))
  have hkn := hp.k.few
  have HKV := Lib.hid (show keptV P p i = decide (0 ≤ i ∧ i < (P.fn : Int) ∧ p.ks.getD i.toNat false = true) from rfl)
  clear hp
  generalize keptV P p i = S at HKV ⊢
  obtain ⟨fA, fn, fc, fs, dA, dn, dc, ds, en, cs⟩ := P
  obtain ⟨kA, kn, kc, ks, cA, cn, cc, cl⟩ := p
  unfold pgV pnV
  dsimp only at HI HCO HKV hfn hkn ⊢
  obtain ⟨W0, hW0⟩ : ∃ W0, (w.alloc (.cells #[.slice fA fn fc, .slice dA dn dc, .int .i64 en] 30)).alloc (.cells #[.slice kA kn kc, .slice cA cn cc] 26) = W0 := ⟨_, rfl⟩
  have HB0 := Lib.hid (show Below w.heap.size w W0 from by rw [← hW0]; exact to_ (alloc_ _ _) (alloc_ _ _))
  have hk1 : Blk W0 w.heap.size 30 #[.slice fA fn fc, .slice dA dn dc, .int .i64 en] := by rw [← hW0]; exact (Blk.new _ _ _).alloc _
  have hk2 : Blk W0 (w.heap.size + 1) 26 #[.slice kA kn kc, .slice cA cn cc] := by
    rw [← hW0]
    have := Blk.new (w.alloc (.cells #[.slice fA fn fc, .slice dA dn dc, .int .i64 en] 30)) 26 #[.slice kA kn kc, .slice cA cn cc]
    rwa [World.size_alloc] at this
  have b0 : W0.cell? ⟨w.heap.size, 0, none⟩ = some (.slice fA fn fc) := hk1.cell 0
  have b1 : W0.cell? ⟨w.heap.size, 1, none⟩ = some (.slice dA dn dc) := hk1.cell 1
  have b2 : W0.cell? ⟨w.heap.size, 2, none⟩ = some (.int .i64 en) := hk1.cell 2
  have d0 : W0.cell? ⟨w.heap.size + 1, 0, none⟩ = some (.slice kA kn kc) := hk2.cell 0
  have d1 : W0.cell? ⟨w.heap.size + 1, 1, none⟩ = some (.slice cA cn cc) := hk2.cell 1
  clear hk1 hk2
  by_cases h0 : i < 0
  · have HZ := Lib.hid (show S = false from by rw [HKV.out]; simp; omega)
    have h0' : ¬ (0 : Int) ≤ i := by omega
    go_enter Try.func26, Try.ntmps26
    go_wp2_with fail
    go_ret
    exact ⟨by rw [HZ.out]; rfl, HB0.out⟩
  · obtain ⟨k, rfl⟩ := Int.eq_ofNat_of_zero_le (show 0 ≤ i by omega)
    have hk0 : (0 : Int) ≤ (k : Int) := by omega
    clear h0
    have hkk := HKV.out
    rw [Int.toNat_natCast] at hkk
    by_cases h1 : k < fn
    · have h1I : (k : Int) < (fn : Int) := by omega
      by_cases h2 : k < kn
      · have h2I : (k : Int) < (kn : Int) := by omega
        obtain ⟨bd, rfl, hb8, c20⟩ := HI.out W0 HB0.out k h2
        obtain ⟨z, hz9⟩ : ∃ z, ks.getD k false = z := ⟨_, rfl⟩
        rw [hz9] at c20 hkk
        have HZ := Lib.hid (show S = z from by rw [hkk]; simp [h1])
        clear hz9 hkk
        go_enter Try.func26, Try.ntmps26
        go_wp2_with fail
        go_ret
        exact ⟨by rw [HZ.out]; rfl, HB0.out⟩
      · have h2I : ¬ (k : Int) < (kn : Int) := by omega
        have HZ := Lib.hid (show S = false from by rw [hkk, HCO.out k (by omega)]; simp)
        clear hkk
        go_enter Try.func26, Try.ntmps26
        go_wp2_with fail
        go_ret
        exact ⟨by rw [HZ.out]; rfl, HB0.out⟩
    · have h1I : ¬ (k : Int) < (fn : Int) := by omega
      have HZ := Lib.hid (show S = false from by rw [hkk]; simp [h1])
      clear hkk
      go_enter Try.func26, Try.ntmps26
      go_wp2_with fail
      go_ret
      exact ⟨by rw [HZ.out]; rfl, HB0.out⟩

set_option maxRecDepth 100000 in
theorem rcheck28_any (w : World) (p : Pn) (hp : PnR w p) (k : Nat) :
    Calls Try.prog 62 #[pnV p, .int .i64 (k : Int)] w fun e w' => e = .returned (.int .i64 (p.cs.getD k 0)) ∧ Below w.heap.size w w' := by
  have HI := Lib.hid (fun W (hb : Below w.heap.size w W) a (ha : a < p.cn) => (hp.c.on hb).at_ ha)
  have HCO := Lib.hid (show ∀ a, p.cn ≤ a → p.cs.getD a 0 = 0 from fun a ha => getD_out (by rw [hp.c.1]; exact ha))
  have hcn := hp.c.few
  clear hp
  obtain ⟨kA, kn, kc, ks, cA, cn, cc, cl⟩ := p
  unfold pnV
  dsimp only at HI HCO hcn ⊢
  obtain ⟨W0, hW0⟩ : ∃ W0, w.alloc (.cells #[.slice kA kn kc, .slice cA cn cc] 26) = W0 := ⟨_, rfl⟩
  have HB0 := Lib.hid (show Below w.heap.size w W0 from by rw [← hW0]; exact alloc_ _ _)
  have hk2 : Blk W0 w.heap.size 26 #[.slice kA kn kc, .slice cA cn cc] := by rw [← hW0]; exact Blk.new _ _ _
  have d0 : W0.cell? ⟨w.heap.size, 0, none⟩ = some (.slice kA kn kc) := hk2.cell 0
  have d1 : W0.cell? ⟨w.heap.size, 1, none⟩ = some (.slice cA cn cc) := hk2.cell 1
  have hk0 : ¬ (k : Int) < 0 := by omega
  have hk1 : (0 : Int) ≤ (k : Int) := by omega
  clear hk2
  by_cases h2 : k < cn
  · have h2I : (k : Int) < (cn : Int) := by omega
    obtain ⟨bd, rfl, hb8, c20⟩ := HI.out W0 HB0.out k h2
    obtain ⟨z, hz9⟩ : ∃ z, cl.getD k 0 = z := ⟨_, rfl⟩
    rw [hz9] at c20 ⊢
    clear hz9
    go_enter Try.func62, Try.ntmps62
    go_wp2_with fail
    go_ret
    exact ⟨rfl, HB0.out⟩
  · have h2I : ¬ (k : Int) < (cn : Int) := by omega
    rw [HCO.out k (by omega)]
    go_enter Try.func62, Try.ntmps62
    go_wp2_with fail
    go_ret
    exact ⟨rfl, HB0.out⟩

set_option maxRecDepth 100000 in
set_option maxHeartbeats 2000000 in
theorem rsize_any (w : World) (P : Pgm) (hfr : Wd 13 encGf w w.heap.size P.fA P.fn P.fc P.fs) (hfn : P.fn ≤ 1000) (hcd : ∀ a, a < P.fn → (gfAt P.fs a).F.code.2.1 ≤ 1000) (p : Pn) (hp : PnR w p) (i : Int) :
    Calls Try.prog 42 #[pgV P, pnV p, .int .i64 i] w fun e w' => e = .returned (.int .i64 (sizeV P p i)) ∧ Below w.heap.size w w' := by
  have HC := Lib.hid (fun W (hb : Below w.heap.size w W) a (ha : a < P.fn) => code_at (hfr.below hb) ha)
  have HK := Lib.hid (fun W (hb : Below w.heap.size w W) => rkept_any W P p (hp.on hb) hfn i)
  have HE := Lib.hid (fun W (hb : Below w.heap.size w W) a => rcheck28_any W p (hp.on hb) a)
  have HSN := Lib.hid (@sizeV_no P p i)
  have HSY := Lib.hid (fun k => @sizeV_yes P p k)
  have HKV := Lib.hid (show ∀ j, keptV P p j = true → 0 ≤ j ∧ j < (P.fn : Int) from fun j h => by unfold keptV at h; simp at h; omega)
  have HCD := Lib.hid hcd
  clear hfr hp hcd
  generalize hS : sizeV P p i = S
  have HS := Lib.hid hS
  clear hS
  obtain ⟨sv, hsv⟩ : ∃ sv, sizeV P p = sv := ⟨_, rfl⟩
  obtain ⟨kv, hkv⟩ : ∃ kv, keptV P p = kv := ⟨_, rfl⟩
  rw [hsv] at HS HSN HSY
  rw [hkv] at HSN HSY HKV HK
  clear hsv hkv
  obtain ⟨b, hb⟩ : ∃ b, kv i = b := ⟨_, rfl⟩
  rw [hb] at HK
  obtain ⟨fA, fn, fc, fs, dA, dn, dc, ds, en, cs⟩ := P
  obtain ⟨kA, kn, kc, ks, cA, cn, cc, cl⟩ := p
  unfold pgV pnV at HK
  unfold pnV at HE
  unfold pgV pnV
  dsimp only at HC HK HE HSY HKV HCD hfn ⊢
  obtain ⟨W0, hW0⟩ : ∃ W0, (w.alloc (.cells #[.slice fA fn fc, .slice dA dn dc, .int .i64 en] 30)).alloc (.cells #[.slice kA kn kc, .slice cA cn cc] 26) = W0 := ⟨_, rfl⟩
  have HB0 := Lib.hid (show Below w.heap.size w W0 from by rw [← hW0]; exact to_ (alloc_ _ _) (alloc_ _ _))
  have hk1 : Blk W0 w.heap.size 30 #[.slice fA fn fc, .slice dA dn dc, .int .i64 en] := by rw [← hW0]; exact (Blk.new _ _ _).alloc _
  have hk2 : Blk W0 (w.heap.size + 1) 26 #[.slice kA kn kc, .slice cA cn cc] := by
    rw [← hW0]
    have := Blk.new (w.alloc (.cells #[.slice fA fn fc, .slice dA dn dc, .int .i64 en] 30)) 26 #[.slice kA kn kc, .slice cA cn cc]
    rwa [World.size_alloc] at this
  have b0 : W0.cell? ⟨w.heap.size, 0, none⟩ = some (.slice fA fn fc) := hk1.cell 0
  have b1 : W0.cell? ⟨w.heap.size, 1, none⟩ = some (.slice dA dn dc) := hk1.cell 1
  have b2 : W0.cell? ⟨w.heap.size, 2, none⟩ = some (.int .i64 en) := hk1.cell 2
  have d0 : W0.cell? ⟨w.heap.size + 1, 0, none⟩ = some (.slice kA kn kc) := hk2.cell 0
  have d1 : W0.cell? ⟨w.heap.size + 1, 1, none⟩ = some (.slice cA cn cc) := hk2.cell 1
  clear hk1 hk2
  cases b with
  | false =>
    have HZ := Lib.hid (show S = 0 from by rw [← HS.out]; exact HSN.out hb)
    clear hb
    go_enter Try.func42, Try.ntmps42
    go_wp2_with (go_at_call 26; refine (HK.out _ HB0.out).mono ?_; rintro e w2 ⟨rfl, h2⟩; have HB2 := Lib.hid (to_ HB0.out h2); clear h2)
    go_ret
    exact ⟨by rw [HZ.out]; rfl, HB2.out⟩
  | true =>
    obtain ⟨h0, h1⟩ := HKV.out i hb
    obtain ⟨k, rfl⟩ := Int.eq_ofNat_of_zero_le h0
    have h1N : k < fn := by omega
    have hz := HSY.out k hb
    rw [HS.out] at hz
    have hc9 := HCD.out k h1N
    obtain ⟨⟨xA, xn, xc⟩, hx⟩ : ∃ x, (gfAt fs k).F.code = x := ⟨_, rfl⟩
    have HX := Lib.hid hx
    rw [hx] at hz hc9
    dsimp only at hz hc9
    clear hx hb
    have HCE := Lib.hid (fun W hb => HE.out W hb k)
    obtain ⟨z, hz9⟩ : ∃ z, cl.getD k 0 = z := ⟨_, rfl⟩
    rw [hz9] at HCE hz
    clear hz9
    have HG := Lib.hid (show ∀ W, Below W0.heap.size W0 W → W.cell? ⟨w.heap.size, 0, none⟩ = some (.slice fA fn fc) ∧ W.cell? ⟨w.heap.size + 1, 0, none⟩ = some (.slice kA kn kc) ∧ W.cell? ⟨w.heap.size + 1, 1, none⟩ = some (.slice cA cn cc) from fun W hb => ⟨(hb.cell (World.block_lt_of_cell? _ _ b0)).trans b0, (hb.cell (World.block_lt_of_cell? _ _ d0)).trans d0, (hb.cell (World.block_lt_of_cell? _ _ d1)).trans d1⟩)
    by_cases h3 : z = 0
    · subst h3
      have HZ := Lib.hid (show S = (xn : Int) + 1 from by rw [hz]; simp)
      clear hz
      have hs : IntKind.i64.wrap (1 + (xn : Int)) = (xn : Int) + 1 := by rw [IntWalk.i64_in _ (by omega)]; omega
      go_enter Try.func42, Try.ntmps42
      go_wp2_with (go_at_call 26; refine (HK.out _ HB0.out).mono ?_; rintro e w2 ⟨rfl, h2⟩; have HB3 := Lib.hid h2; have HB2 := Lib.hid (to_ HB0.out h2); clear h2; clear b0 b1 b2 d0 d1; obtain ⟨b0, d0, d1⟩ := HG.out w2 HB3.out; obtain ⟨ad, rfl, hb9, c10⟩ := HC.out w2 HB2.out k h1N; rw [HX.out] at c10; go_wp2_with (go_at_call 62; refine (HCE.out _ HB2.out).mono ?_; rintro e w4 ⟨rfl, h4⟩; have HB4 := Lib.hid (to_ HB2.out h4); clear h4))
      go_ret
      exact ⟨by rw [HZ.out]; rfl, HB4.out⟩
    · have h3' : (z == 0) = false := by simpa using h3
      have HZ := Lib.hid (show S = (xn : Int) + 1 + 1 from by rw [hz, if_pos h3])
      clear hz h3
      have hs : IntKind.i64.wrap (1 + (xn : Int)) = (xn : Int) + 1 := by rw [IntWalk.i64_in _ (by omega)]; omega
      go_enter Try.func42, Try.ntmps42
      go_wp2_with (go_at_call 26; refine (HK.out _ HB0.out).mono ?_; rintro e w2 ⟨rfl, h2⟩; have HB3 := Lib.hid h2; have HB2 := Lib.hid (to_ HB0.out h2); clear h2; clear b0 b1 b2 d0 d1; obtain ⟨b0, d0, d1⟩ := HG.out w2 HB3.out; obtain ⟨ad, rfl, hb9, c10⟩ := HC.out w2 HB2.out k h1N; rw [HX.out] at c10; go_wp2_with (go_at_call 62; refine (HCE.out _ HB2.out).mono ?_; rintro e w4 ⟨rfl, h4⟩; have HB4 := Lib.hid (to_ HB2.out h4); clear h4))
      go_ret
      exact ⟨by rw [HZ.out]; rfl, HB4.out⟩
end Go.Proofs.Ytbcabomblfehlab.Bo
