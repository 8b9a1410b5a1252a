/-
  WALKS of layer 29: start, Starts, Code, addr, Addrs, Words: the document's.
-/
import Derived.Test.YtbcabomblfehlabUd
namespace Go.Proofs.Ytbcabomblfehlab.Bo
open Go.RowKit Go.Maps
open Mem Rf
set_option linter.unusedSimpArgs false
set_option linter.unusedVariables false

theorem box2 (w : World) (a b c d e : Value) : Blk ((w.alloc (.cells #[a, b, c] 30)).alloc (.cells #[d, e] 26)) w.heap.size 30 #[a, b, c] ∧ Blk ((w.alloc (.cells #[a, b, c] 30)).alloc (.cells #[d, e] 26)) (w.heap.size + 1) 26 #[d, e] := by
  refine ⟨(Blk.new _ _ _).alloc _, ?_⟩
  have := Blk.new (w.alloc (.cells #[a, b, c] 30)) 26 #[d, e]
  rwa [World.size_alloc] at this
theorem box2_at {w : World} {m : Nat} {a b c d e : Value} (h : Blk w m 30 #[a, b, c] ∧ Blk w (m + 1) 26 #[d, e]) {W : World} (hb : Below w.heap.size w W) :
    W.cell? ⟨m, 0, none⟩ = some a ∧ W.cell? ⟨m, 1, none⟩ = some b ∧ W.cell? ⟨m, 2, none⟩ = some c ∧ W.cell? ⟨m + 1, 0, none⟩ = some d ∧ W.cell? ⟨m + 1, 1, none⟩ = some e :=
  ⟨(h.1.below hb h.1.lt).cell 0, (h.1.below hb h.1.lt).cell 1, (h.1.below hb h.1.lt).cell 2, (h.2.below hb h.2.lt).cell 0, (h.2.below hb h.2.lt).cell 1⟩
theorem RdF.size {w : World} {P : Pgm} {p : Pn} (hr : RdF w w.heap.size P p) (W : World) (hb : Below w.heap.size w W) (k : Nat) :
    Calls Try.prog 42 #[pgV P, pnV p, .int .i64 (k : Int)] W fun e w' => e = .returned (.int .i64 (szf P p k)) ∧ Below W.heap.size W w' :=
  rsize_any W P ((hr.fr.below hb).more hb.size) hr.fn hr.cd p ⟨(hr.k.below hb).more hb.size, (hr.c.below hb).more hb.size⟩ (k : Int)

set_option maxRecDepth 100000 in
set_option maxHeartbeats 4000000 in
theorem rstart_any (w : World) (P : Pgm) (p : Pn) (hr : RdF w w.heap.size P p) (i : Nat) (hi : i ≤ P.fn) :
    Calls Try.prog 27 #[pgV P, pnV p, .int .i64 (i : Int)] w fun e w' => e = .returned (.int .i64 (stV (szf P p) 2 i)) ∧ Below w.heap.size w w' := by
  have HSZ := Lib.hid hr.size
  have HIN := Lib.hid (fun k hk => stV_in (f := 2) (szf_in (p := p) hr.cd) k hk)
  have HS1 := Lib.hid (szf_in (p := p) hr.cd)
  have hfn := hr.fn
  have HST := Lib.hid (fun k => show stV (szf P p) 2 (k + 1) = stV (szf P p) 2 k + szf P p k from rfl)
  have hst0 : stV (szf P p) 2 0 = 2 := rfl
  obtain ⟨s, hs⟩ : ∃ s, szf P p = s := ⟨_, rfl⟩
  rw [hs] at HSZ HIN HS1 HST hst0 ⊢
  clear hs hr
  obtain ⟨fA, fn, fc, fs, dA, dn, dc, ds, en, cs⟩ := P
  obtain ⟨kA, kn, kc, ks, cA, cn, cc, cl⟩ := p
  unfold pgV pnV at HSZ ⊢
  dsimp only at HSZ HIN HS1 hfn hi ⊢
  have hbx := box2 w (.slice fA fn fc) (.slice dA dn dc) (.int .i64 en) (.slice kA kn kc) (.slice cA cn cc)
  obtain ⟨W0, hW0⟩ : ∃ W0, (w.alloc (.cells #[.slice fA fn fc, .slice dA dn dc, .int .i64 en] 30)).alloc (.cells #[.slice kA kn kc, .slice cA cn cc] 26) = W0 := ⟨_, rfl⟩
  have HB0 := Lib.hid (show Below w.heap.size w W0 from by rw [← hW0]; exact to_ (alloc_ _ _) (alloc_ _ _))
  rw [hW0] at hbx
  have HX := Lib.hid (fun W hb => box2_at hbx (W := W) hb)
  clear hbx
  go_enter Try.func27, Try.ntmps27
  go_wp2_with fail
  clear hW0
  go_loopw [7, 8] (fun st j wr => ∃ k : Nat, k ≤ i ∧ j = .int .i64 (k : Int) ∧ st = .int .i64 (stV s 2 k) ∧ Below W0.heap.size W0 wr) (fun _ j _ => i - (intOf j).toNat)
  case atStart => exact ⟨0, Nat.zero_le _, rfl, by rw [hst0], Below.refl _ _⟩
  case round =>
    obtain ⟨k, hk, rfl, rfl, hbel⟩ := hrel
    obtain ⟨x0, x1, x2, x3, x4⟩ := HX.out wr hbel
    by_cases hlt : k < i
    · have hkI : (k : Int) < (i : Int) := by omega
      have HC := Lib.hid (HSZ.out wr (to_ HB0.out hbel) k)
      have h1 := HIN.out k (by omega)
      have h2 := HS1.out k (by omega)
      have h3 := HST.out k
      have HBE := Lib.hid hbel
      obtain ⟨x, hx⟩ : ∃ x, stV s 2 k = x := ⟨_, rfl⟩
      obtain ⟨z, hz⟩ : ∃ z, s k = z := ⟨_, rfl⟩
      rw [hx] at h1 h3 ⊢
      rw [hz] at h2 h3 HC
      have hsum : IntKind.i64.wrap (x + z) = x + z := IntWalk.i64_in _ (by omega)
      have H3 := Lib.hid h3
      clear hx hz h1 h2 h3 hbel
      go_wp2_with (go_at_call 42; refine HC.out.mono ?_; rintro e w2 ⟨rfl, hb2⟩; have HB2 := Lib.hid (to_ HBE.out hb2); clear hb2)
      go_roundw
      case rel => exact ⟨k + 1, by omega, by go_num, by rw [H3.out], HB2.out⟩
      case measure => simp [intOf]; omega
    · obtain rfl : k = i := by omega
      go_wp2_with fail
      go_ret
      exact ⟨rfl, to_ HB0.out hbel⟩

set_option maxRecDepth 100000 in
set_option maxHeartbeats 4000000 in
theorem rcode_any (w : World) (P : Pgm) (p : Pn) (hr : RdF w w.heap.size P p) :
    Calls Try.prog 12 #[pgV P, pnV p] w fun e w' => e = .returned (.int .i64 (codeV P p)) ∧ Below w.heap.size w w' := by
  have HST := Lib.hid (fun W (hb : Below w.heap.size w W) => rstart_any W P p ((hr.below hb).more hb.size) P.fn (Nat.le_refl _))
  have hfn := hr.fn
  unfold codeV
  generalize stV (szf P p) 2 P.fn = z at HST ⊢
  clear hr
  obtain ⟨fA, fn, fc, fs, dA, dn, dc, ds, en, cs⟩ := P
  obtain ⟨kA, kn, kc, ks, cA, cn, cc, cl⟩ := p
  unfold pgV pnV at HST ⊢
  dsimp only at HST hfn ⊢
  have hbx := box2 w (.slice fA fn fc) (.slice dA dn dc) (.int .i64 en) (.slice kA kn kc) (.slice cA cn cc)
  obtain ⟨W0, hW0⟩ : ∃ W0, (w.alloc (.cells #[.slice fA fn fc, .slice dA dn dc, .int .i64 en] 30)).alloc (.cells #[.slice kA kn kc, .slice cA cn cc] 26) = W0 := ⟨_, rfl⟩
  have HB0 := Lib.hid (show Below w.heap.size w W0 from by rw [← hW0]; exact to_ (alloc_ _ _) (alloc_ _ _))
  rw [hW0] at hbx
  obtain ⟨x0, x1, x2, x3, x4⟩ := box2_at hbx (W := W0) (Below.refl _ _)
  clear hbx
  go_enter Try.func12, Try.ntmps12
  go_wp2_with (go_at_call 27; refine (HST.out W0 HB0.out).mono ?_; rintro e w2 ⟨rfl, hb2⟩; have HB2 := Lib.hid (to_ HB0.out hb2); clear hb2)
  go_ret
  exact ⟨rfl, HB2.out⟩

theorem startsL_next {P : Pgm} {p : Pn} (k : Nat) : ((List.range (k + 1)).map (startV P p)).flatMap encI = ((List.range k).map (startV P p)).flatMap encI ++ [.int .i64 (startV P p k)] := by
  rw [List.range_succ, List.map_append, List.flatMap_append]; rfl

set_option maxRecDepth 100000 in
set_option maxHeartbeats 4000000 in
theorem rstarts_any (w : World) (P : Pgm) (p : Pn) (hr : RdF w w.heap.size P p) :
    Calls Try.prog 10 #[pgV P, pnV p] w fun e w' => ∃ A c, e = .returned (.slice A P.fn c) ∧ IL w' A P.fn c (startsL P p) ∧ Below w.heap.size w w' := by
  obtain ⟨i0, hi0, hz0, hz1, hz2⟩ := info_split infoInt
  have HST := Lib.hid (fun W (hb : Below w.heap.size w W) k (hk : k < P.fn) => rstart_any W P p ((hr.below hb).more hb.size) k (by omega))
  have HKE := Lib.hid (fun W (hb : Below w.heap.size w W) k => rkept_any W P p ⟨(hr.k.below hb).more hb.size, (hr.c.below hb).more hb.size⟩ hr.fn (k : Int))
  have HYE := Lib.hid (fun k (h : keptV P p ((k : Nat) : Int) = true) => show startV P p k = stV (szf P p) 2 k from if_pos (szf_pos.2 h))
  have HNO := Lib.hid (fun k (h : keptV P p ((k : Nat) : Int) = false) => show startV P p k = -1 from if_neg (fun h2 => by rw [szf_pos.1 h2] at h; cases h))
  have hfn := hr.fn
  have HTK := Lib.hid (fun k => @startsL_next P p k)
  have HOWN : Hid (∀ W v, W.ownsRow w.heap.size 3 1 v P.fn (((List.range P.fn).map (startV P p)).flatMap encI) → ∃ A c, v = .slice A P.fn c ∧ IL W A P.fn c (startsL P p)) := Lib.hid (fun W v h => wd_own encI_len (by unfold startsL; simp) h)
  obtain ⟨sl, hsl⟩ : ∃ sl, startsL P p = sl := ⟨_, rfl⟩
  rw [hsl] at HOWN ⊢
  obtain ⟨st, hst⟩ : ∃ st, startV P p = st := ⟨_, rfl⟩
  rw [hst] at HYE HNO HTK HOWN
  obtain ⟨sz, hsz⟩ : ∃ sz, stV (szf P p) 2 = sz := ⟨_, rfl⟩
  rw [hsz] at HST HYE
  obtain ⟨kv, hkv⟩ : ∃ kv : Nat → Bool, (fun k : Nat => keptV P p (k : Int)) = kv := ⟨_, rfl⟩
  have HKV := Lib.hid (fun k => show keptV P p ((k : Nat) : Int) = kv k from by rw [← hkv])
  clear hsl hst hsz hkv hr
  obtain ⟨fA, fn, fc, fs, dA, dn, dc, ds, en, cs⟩ := P
  obtain ⟨kA, kn, kc, ks, cA, cn, cc, cl⟩ := p
  unfold pgV pnV at HST HKE ⊢
  dsimp only at HST HKE HOWN hfn ⊢
  have hbx := box2 w (.slice fA fn fc) (.slice dA dn dc) (.int .i64 en) (.slice kA kn kc) (.slice cA cn cc)
  obtain ⟨W0, hW0⟩ : ∃ W0, (w.alloc (.cells #[.slice fA fn fc, .slice dA dn dc, .int .i64 en] 30)).alloc (.cells #[.slice kA kn kc, .slice cA cn cc] 26) = W0 := ⟨_, rfl⟩
  have HB0 := Lib.hid (show Below w.heap.size w W0 from by rw [← hW0]; exact to_ (alloc_ _ _) (alloc_ _ _))
  rw [hW0] at hbx
  have HX := Lib.hid (fun W hb => box2_at hbx (W := W) hb)
  clear hbx
  go_enter Try.func10, Try.ntmps10
  go_wp2_with fail
  clear hW0
  go_loopw [5, 6] (fun v9 i9 wr => ∃ k : Nat, k ≤ fn ∧ i9 = .int .i64 (k : Int) ∧ Hid (wr.ownsRow W0.heap.size 3 1 v9 k (((List.range k).map st).flatMap encI)) ∧ Hid (Below W0.heap.size W0 wr)) (fun _ i9 _ => fn - (intOf i9).toNat)
  case atStart => exact ⟨0, Nat.zero_le _, rfl, Lib.hid (World.ownsRow_nil _ _ _ _), Lib.hid (Below.refl _ _)⟩
  case round =>
    obtain ⟨k, hk, rfl, HOW, HBE⟩ := hrel
    obtain ⟨x0, x1, x2, x3, x4⟩ := HX.out wr HBE.out
    by_cases hlt : k < fn
    · have hkI : (k : Int) < (fn : Int) := by omega
      have hk0 : (0 : Int) ≤ (k : Int) := by omega
      have HC := Lib.hid (HKE.out wr (to_ HB0.out HBE.out) k)
      have HS := Lib.hid (fun W hb => HST.out W hb k hlt)
      have HT := Lib.hid (HTK.out k)
      rw [HKV.out] at HC
      obtain ⟨b, hb⟩ : ∃ b, kv k = b := ⟨_, rfl⟩
      rw [hb] at HC
      cases b with
      | false =>
        rw [HNO.out k (by rw [HKV.out]; exact hb)] at HT
        clear hb
        go_wp2_with (go_at_call 26; refine HC.out.mono ?_; rintro e w3 ⟨rfl, b3⟩; have HB3 := Lib.hid b3; clear b3; go_wp2_with (at_builtin; go_loud (refine wpList_append_own _ rfl _ _ 24 rfl W0.heap.size 3 i0 (.int .i64 0) 1 8 Try.underlying24 hi0 hz0 hz1 hz2 rfl (by decide) _ _ _ rfl (own_keep1 HOW.out fun gg _ hgl _ => (to_ HB3.out (alloc_ _ _)).block gg hgl) ⟨w3.heap.size, 0, none⟩ 1 1 [.int .i64 (-1)] rfl rfl (one_new w3 _ 3) (by simp [Value.oneCell']) (by unfold maxLen; omega) (by omega) (by have := HBE.out.size; have := HB3.out.size; simp; omega) ?_; intro v' w' h2 h3 _; have H2 := Lib.hid h2; have H3 := Lib.hid h3; clear h2 h3)))
        go_roundw
        case rel => exact ⟨k + 1, by omega, by go_num, Lib.hid (by rw [HT.out]; exact H2.out), Lib.hid (((to_ HBE.out (to_ HB3.out (alloc_ _ _)))).grown H3.out (to_ HBE.out (to_ HB3.out (alloc_ _ _))).size fun r e => (HOW.out.lt r e).1)⟩
        case measure => simp [intOf]; omega
      | true =>
        rw [HYE.out k (by rw [HKV.out]; exact hb)] at HT
        clear hb
        obtain ⟨z, hz⟩ : ∃ z, sz k = z := ⟨_, rfl⟩
        rw [hz] at HS HT
        clear hz
        go_wp2_with (go_at_call 26; refine HC.out.mono ?_; rintro e w3 ⟨rfl, b3⟩; have HB3 := Lib.hid b3; clear b3 x0 x1 x2 x3 x4; obtain ⟨x0, x1, x2, x3, x4⟩ := HX.out w3 (to_ HBE.out HB3.out); go_wp2_with (go_at_call 27; refine (HS.out w3 (to_ HB0.out (to_ HBE.out HB3.out))).mono ?_; rintro e w4 ⟨rfl, b4⟩; have HB4 := Lib.hid (to_ HB3.out b4); clear b4; go_wp2_with (at_builtin; go_loud (refine wpList_append_own _ rfl _ _ 24 rfl W0.heap.size 3 i0 (.int .i64 0) 1 8 Try.underlying24 hi0 hz0 hz1 hz2 rfl (by decide) _ _ _ rfl (own_keep1 HOW.out fun gg _ hgl _ => (to_ HB4.out (alloc_ _ _)).block gg hgl) ⟨w4.heap.size, 0, none⟩ 1 1 [.int .i64 z] rfl rfl (one_new w4 _ 3) (by simp [Value.oneCell']) (by unfold maxLen; omega) (by omega) (by have := HBE.out.size; have := HB4.out.size; simp; omega) ?_; intro v' w' h2 h3 _; have H2 := Lib.hid h2; have H3 := Lib.hid h3; clear h2 h3))))
        go_roundw
        case rel => exact ⟨k + 1, by omega, by go_num, Lib.hid (by rw [HT.out]; exact H2.out), Lib.hid (((to_ HBE.out (to_ HB4.out (alloc_ _ _)))).grown H3.out (to_ HBE.out (to_ HB4.out (alloc_ _ _))).size fun r e => (HOW.out.lt r e).1)⟩
        case measure => simp [intOf]; omega
    · obtain rfl : k = fn := by omega
      obtain ⟨A, c, rfl, hil⟩ := HOWN.out wr _ (own_lower HOW.out HB0.out.size)
      have HIL := Lib.hid hil
      clear hil
      go_wp2_with fail
      go_ret
      exact ⟨A, c, rfl, HIL.out, to_ HB0.out HBE.out⟩

/-! ### data -/
set_option maxRecDepth 100000 in
set_option maxHeartbeats 4000000 in
theorem raddr_any (w : World) (P : Pgm) (hr : RdD w w.heap.size P) (i : Nat) (hi : i ≤ P.dn) :
    Calls Try.prog 29 #[pgV P, .int .i64 (i : Int)] w fun e w' => e = .returned (.int .i64 (stV (dzf P) 0 i)) ∧ Below w.heap.size w w' := by
  have HC := Lib.hid (fun W (hb : Below w.heap.size w W) k (hk : k < P.dn) => (show ∃ ad, P.dA = some ad ∧ W.cell? ⟨(ad.add (k * 7)).block, (ad.add (k * 7)).off + 4, none⟩ = some (slV (gdAt P.ds k).D.words) from by
    obtain ⟨ad, hA, _, _, hc⟩ := gd_at (hr.dr.below hb) hk
    exact ⟨ad, hA, hc 3 _ rfl⟩))
  have HIN := Lib.hid (fun k hk => stV_in (f := 0) (dzf_in hr.wd) k hk)
  have HWD := Lib.hid hr.wd
  have hdn := hr.dn
  have HST := Lib.hid (fun k => show stV (dzf P) 0 (k + 1) = stV (dzf P) 0 k + (1 + ((gdAt P.ds k).D.words.2.1 : Int)) from rfl)
  have hst0 : stV (dzf P) 0 0 = 0 := rfl
  obtain ⟨s, hs⟩ : ∃ s, stV (dzf P) 0 = s := ⟨_, rfl⟩
  rw [hs] at HIN HST hst0 ⊢
  clear hs hr
  obtain ⟨fA, fn, fc, fs, dA, dn, dc, ds, en, cs⟩ := P
  unfold pgV
  dsimp only at HC HIN HWD HST hdn hi ⊢
  obtain ⟨W0, hW0⟩ : ∃ W0, w.alloc (.cells #[.slice fA fn fc, .slice dA dn dc, .int .i64 en] 30) = W0 := ⟨_, rfl⟩
  have HB0 := Lib.hid (show Below w.heap.size w W0 from by rw [← hW0]; exact alloc_ _ _)
  have hbx : Blk W0 w.heap.size 30 #[.slice fA fn fc, .slice dA dn dc, .int .i64 en] := by rw [← hW0]; exact Blk.new _ _ _
  have HX := Lib.hid (show ∀ W, Below W0.heap.size W0 W → W.cell? ⟨w.heap.size, 1, none⟩ = some (.slice dA dn dc) from fun W hb => (hbx.below hb hbx.lt).cell 1)
  clear hbx
  go_enter Try.func29, Try.ntmps29
  go_wp2_with fail
  clear hW0
  go_loopw [5, 6] (fun st j wr => ∃ k : Nat, k ≤ i ∧ j = .int .i64 (k : Int) ∧ st = .int .i64 (s k) ∧ Below W0.heap.size W0 wr) (fun _ j _ => i - (intOf j).toNat)
  case atStart => exact ⟨0, Nat.zero_le _, rfl, by rw [hst0], Below.refl _ _⟩
  case round =>
    obtain ⟨k, hk, rfl, rfl, hbel⟩ := hrel
    have x1 := HX.out wr hbel
    by_cases hlt : k < i
    · have hkI : (k : Int) < (i : Int) := by omega
      have hkD : (k : Int) < (dn : Int) := by omega
      have hk0 : (0 : Int) ≤ (k : Int) := by omega
      obtain ⟨ad, rfl, c4⟩ := HC.out wr (to_ HB0.out hbel) k (by omega)
      have h1 := HIN.out k (by omega)
      have h2 := HWD.out k (by omega)
      have h3 := HST.out k
      have HBE := Lib.hid hbel
      obtain ⟨⟨xA, xn, xc⟩, hx⟩ : ∃ x, (gdAt ds k).D.words = x := ⟨_, rfl⟩
      rw [hx] at h2 h3 c4
      unfold slV at c4
      dsimp only at h2 h3 c4
      obtain ⟨x, hx⟩ : ∃ x, s k = x := ⟨_, rfl⟩
      rw [hx] at h1 h3 ⊢
      have hs1 : IntKind.i64.wrap (x + 1) = x + 1 := IntWalk.i64_in _ (by omega)
      have hs2 : IntKind.i64.wrap (x + 1 + (xn : Int)) = x + 1 + (xn : Int) := IntWalk.i64_in _ (by omega)
      have H3 := Lib.hid (show s (k + 1) = x + 1 + (xn : Int) by omega)
      clear hx h1 h2 h3 hbel
      go_wp2_with fail
      go_roundw
      case rel => exact ⟨k + 1, by omega, by go_num, by rw [H3.out], HBE.out⟩
      case measure => simp [intOf]; omega
    · obtain rfl : k = i := by omega
      go_wp2_with fail
      go_ret
      exact ⟨rfl, to_ HB0.out hbel⟩

set_option maxRecDepth 100000 in
set_option maxHeartbeats 4000000 in
theorem rwords_any (w : World) (P : Pgm) (hr : RdD w w.heap.size P) :
    Calls Try.prog 16 #[pgV P] w fun e w' => e = .returned (.int .i64 (wordsV P)) ∧ Below w.heap.size w w' := by
  have HST := Lib.hid (fun W (hb : Below w.heap.size w W) => raddr_any W P ⟨(hr.below hb).dr.more hb.size, hr.dn, hr.wd⟩ P.dn (Nat.le_refl _))
  have hdn := hr.dn
  unfold wordsV
  generalize stV (dzf P) 0 P.dn = z at HST ⊢
  clear hr
  obtain ⟨fA, fn, fc, fs, dA, dn, dc, ds, en, cs⟩ := P
  unfold pgV at HST ⊢
  dsimp only at HST hdn ⊢
  obtain ⟨W0, hW0⟩ : ∃ W0, w.alloc (.cells #[.slice fA fn fc, .slice dA dn dc, .int .i64 en] 30) = W0 := ⟨_, rfl⟩
  have HB0 := Lib.hid (show Below w.heap.size w W0 from by rw [← hW0]; exact alloc_ _ _)
  have hbx : Blk W0 w.heap.size 30 #[.slice fA fn fc, .slice dA dn dc, .int .i64 en] := by rw [← hW0]; exact Blk.new _ _ _
  have x0 : W0.cell? ⟨w.heap.size, 0, none⟩ = some (.slice fA fn fc) := hbx.cell 0
  have x1 : W0.cell? ⟨w.heap.size, 1, none⟩ = some (.slice dA dn dc) := hbx.cell 1
  have x2 : W0.cell? ⟨w.heap.size, 2, none⟩ = some (.int .i64 en) := hbx.cell 2
  clear hbx
  go_enter Try.func16, Try.ntmps16
  go_wp2_with (go_at_call 29; refine (HST.out W0 HB0.out).mono ?_; rintro e w2 ⟨rfl, hb2⟩; have HB2 := Lib.hid (to_ HB0.out hb2); clear hb2)
  go_ret
  exact ⟨rfl, HB2.out⟩

theorem addrsL_next {P : Pgm} (k : Nat) : ((List.range (k + 1)).map (stV (dzf P) 0)).flatMap encI = ((List.range k).map (stV (dzf P) 0)).flatMap encI ++ [.int .i64 (stV (dzf P) 0 k)] := by
  rw [List.range_succ, List.map_append, List.flatMap_append]; rfl

set_option maxRecDepth 100000 in
set_option maxHeartbeats 4000000 in
theorem raddrs_any (w : World) (P : Pgm) (hr : RdD w w.heap.size P) :
    Calls Try.prog 14 #[pgV P] w fun e w' => ∃ A c, e = .returned (.slice A P.dn c) ∧ IL w' A P.dn c (addrsL P) ∧ Below w.heap.size w w' := by
  obtain ⟨i0, hi0, hz0, hz1, hz2⟩ := info_split infoInt
  have HST := Lib.hid (fun W (hb : Below w.heap.size w W) k (hk : k < P.dn) => raddr_any W P ⟨(hr.below hb).dr.more hb.size, hr.dn, hr.wd⟩ k (by omega))
  have hdn := hr.dn
  have HTK := Lib.hid (fun k => @addrsL_next P k)
  have HOWN : Hid (∀ W v, W.ownsRow w.heap.size 3 1 v P.dn (((List.range P.dn).map (stV (dzf P) 0)).flatMap encI) → ∃ A c, v = .slice A P.dn c ∧ IL W A P.dn c (addrsL P)) := Lib.hid (fun W v h => wd_own encI_len (by unfold addrsL; simp) h)
  obtain ⟨sl, hsl⟩ : ∃ sl, addrsL P = sl := ⟨_, rfl⟩
  rw [hsl] at HOWN ⊢
  obtain ⟨st, hst⟩ : ∃ st, stV (dzf P) 0 = st := ⟨_, rfl⟩
  rw [hst] at HTK HOWN HST
  clear hsl hst hr
  obtain ⟨fA, fn, fc, fs, dA, dn, dc, ds, en, cs⟩ := P
  unfold pgV at HST ⊢
  dsimp only at HST HOWN hdn ⊢
  obtain ⟨W0, hW0⟩ : ∃ W0, w.alloc (.cells #[.slice fA fn fc, .slice dA dn dc, .int .i64 en] 30) = W0 := ⟨_, rfl⟩
  have HB0 := Lib.hid (show Below w.heap.size w W0 from by rw [← hW0]; exact alloc_ _ _)
  have hbx : Blk W0 w.heap.size 30 #[.slice fA fn fc, .slice dA dn dc, .int .i64 en] := by rw [← hW0]; exact Blk.new _ _ _
  have HX := Lib.hid (show ∀ W, Below W0.heap.size W0 W → W.cell? ⟨w.heap.size, 0, none⟩ = some (.slice fA fn fc) ∧ W.cell? ⟨w.heap.size, 1, none⟩ = some (.slice dA dn dc) ∧ W.cell? ⟨w.heap.size, 2, none⟩ = some (.int .i64 en) from fun W hb => ⟨(hbx.below hb hbx.lt).cell 0, (hbx.below hb hbx.lt).cell 1, (hbx.below hb hbx.lt).cell 2⟩)
  clear hbx
  go_enter Try.func14, Try.ntmps14
  go_wp2_with fail
  clear hW0
  go_loopw [3, 4] (fun v9 i9 wr => ∃ k : Nat, k ≤ dn ∧ i9 = .int .i64 (k : Int) ∧ Hid (wr.ownsRow W0.heap.size 3 1 v9 k (((List.range k).map st).flatMap encI)) ∧ Hid (Below W0.heap.size W0 wr)) (fun _ i9 _ => dn - (intOf i9).toNat)
  case atStart => exact ⟨0, Nat.zero_le _, rfl, Lib.hid (World.ownsRow_nil _ _ _ _), Lib.hid (Below.refl _ _)⟩
  case round =>
    obtain ⟨k, hk, rfl, HOW, HBE⟩ := hrel
    obtain ⟨x0, x1, x2⟩ := HX.out wr HBE.out
    by_cases hlt : k < dn
    · have hkI : (k : Int) < (dn : Int) := by omega
      have hk0 : (0 : Int) ≤ (k : Int) := by omega
      have HS := Lib.hid (HST.out wr (to_ HB0.out HBE.out) k hlt)
      have HT := Lib.hid (HTK.out k)
      obtain ⟨z, hz⟩ : ∃ z, st k = z := ⟨_, rfl⟩
      rw [hz] at HS HT
      clear hz
      go_wp2_with (go_at_call 29; refine HS.out.mono ?_; rintro e w4 ⟨rfl, b4⟩; have HB4 := Lib.hid b4; clear b4; go_wp2_with (at_builtin; go_loud (refine wpList_append_own _ rfl _ _ 24 rfl W0.heap.size 3 i0 (.int .i64 0) 1 8 Try.underlying24 hi0 hz0 hz1 hz2 rfl (by decide) _ _ _ rfl (own_keep1 HOW.out fun gg _ hgl _ => (to_ HB4.out (alloc_ _ _)).block gg hgl) ⟨w4.heap.size, 0, none⟩ 1 1 [.int .i64 z] rfl rfl (one_new w4 _ 3) (by simp [Value.oneCell']) (by unfold maxLen; omega) (by omega) (by have := HBE.out.size; have := HB4.out.size; simp; omega) ?_; intro v' w' h2 h3 _; have H2 := Lib.hid h2; have H3 := Lib.hid h3; clear h2 h3)))
      go_roundw
      case rel => exact ⟨k + 1, by omega, by go_num, Lib.hid (by rw [HT.out]; exact H2.out), Lib.hid (((to_ HBE.out (to_ HB4.out (alloc_ _ _)))).grown H3.out (to_ HBE.out (to_ HB4.out (alloc_ _ _))).size fun r e => (HOW.out.lt r e).1)⟩
      case measure => simp [intOf]; omega
    · obtain rfl : k = dn := by omega
      obtain ⟨A, c, rfl, hil⟩ := HOWN.out wr _ (own_lower HOW.out HB0.out.size)
      have HIL := Lib.hid hil
      clear hil
      go_wp2_with fail
      go_ret
      exact ⟨A, c, rfl, HIL.out, to_ HB0.out HBE.out⟩
end Go.Proofs.Ytbcabomblfehlab.Bo
