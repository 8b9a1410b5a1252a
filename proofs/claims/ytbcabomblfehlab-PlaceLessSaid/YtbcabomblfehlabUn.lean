/-
  MATHEMATICS of layer 29: with less kept nothing starts later. WALK of layer 29's law: PlaceLess.
-/
import Derived.Test.YtbcabomblfehlabUk
namespace Go.Proofs.Ytbcabomblfehlab.Bo
open Go.RowKit Go.Maps
open Mem Rf
set_option linter.unusedSimpArgs false
set_option linter.unusedVariables false

theorem getD_set {α : Type} (l : List α) (k j : Nat) (v d : α) : (l.set k v).getD j d = if k = j ∧ k < l.length then v else l.getD j d := by
  rw [List.getD_eq_getElem?_getD, List.getD_eq_getElem?_getD, List.getElem?_set]
  by_cases h : k = j
  · subst h
    by_cases h2 : k < l.length
    · simp [h2]
    · simp [h2]
  · simp [h]
theorem szf_le {P : Pgm} {p q : Pn} (hk : ∀ j, keptV P q j = true → keptV P p j = true) (hc : ∀ j : Nat, q.cs.getD j 0 ≠ 0 → p.cs.getD j 0 ≠ 0) (j : Nat) : szf P q j ≤ szf P p j := by
  unfold szf
  cases h : keptV P q (j : Int) with
  | false =>
    rw [sizeV_no h]
    cases h2 : keptV P p (j : Int) with
    | false => rw [sizeV_no h2]; exact Int.le_refl _
    | true => rw [sizeV_yes h2]; split <;> omega
  | true =>
    rw [sizeV_yes h, sizeV_yes (hk _ h)]
    have := hc j
    by_cases h3 : q.cs.getD j 0 ≠ 0
    · rw [if_pos h3, if_pos (this h3)]; exact Int.le_refl _
    · rw [if_neg h3]; split <;> omega
theorem startV_le {P : Pgm} {p q : Pn} (hcd : ∀ a, a < P.fn → (gfAt P.fs a).F.code.2.1 ≤ 1000) (h : ∀ j, szf P q j ≤ szf P p j) {k : Nat} (hk : k < P.fn) : startV P q k ≤ startV P p k := by
  unfold startV
  by_cases h1 : 0 < szf P q k
  · have := h k
    rw [if_pos h1, if_pos (by omega)]
    exact stV_le (f := 2) (fun j _ => h j) k (Nat.le_refl _)
  · rw [if_neg h1]
    by_cases h2 : 0 < szf P p k
    · rw [if_pos h2]
      have := (stV_in (f := 2) (szf_in (p := p) hcd) k (by omega)).1
      omega
    · rw [if_neg h2]; exact Int.le_refl _
theorem codeV_le {P : Pgm} {p q : Pn} (h : ∀ j, szf P q j ≤ szf P p j) : codeV P q ≤ codeV P p := stV_le (f := 2) (fun j _ => h j) P.fn (Nat.le_refl _)
theorem codeV_in {P : Pgm} {p : Pn} (hcd : ∀ a, a < P.fn → (gfAt P.fs a).F.code.2.1 ≤ 1000) (hn : P.fn ≤ 24) : 2 ≤ codeV P p ∧ codeV P p ≤ 100000 := by
  have := stV_in (f := 2) (szf_in (p := p) hcd) P.fn (Nat.le_refl _)
  unfold codeV; omega
theorem startsL_at {P : Pgm} {p : Pn} {k : Nat} (hk : k < P.fn) : (startsL P p).getD k 0 = startV P p k := by
  unfold startsL
  rw [List.getD_eq_getElem?_getD, List.getElem?_map, List.getElem?_range hk]; rfl
/-- With one less kept. -/
def lessK (A B : Option Addr) (c d : Nat) (p : Pn) (k : Nat) : Pn := ⟨A, p.kn, c, p.ks.set k false, B, p.cn, d, p.cs⟩
/-- With a check less. -/
def lessC (A B : Option Addr) (c d : Nat) (p : Pn) (k : Nat) : Pn := ⟨A, p.kn, c, p.ks, B, p.cn, d, p.cs.set k 0⟩
theorem lessK_le {P : Pgm} {A B : Option Addr} {c d : Nat} {p : Pn} {k : Nat} (j : Nat) : szf P (lessK A B c d p k) j ≤ szf P p j := by
  refine szf_le (p := p) (q := lessK A B c d p k) (fun j h => ?_) (fun j h => h) j
  unfold keptV lessK at *
  simp only [decide_eq_true_eq] at h ⊢
  refine ⟨h.1, h.2.1, ?_⟩
  have h3 := h.2.2
  rw [getD_set] at h3
  split at h3
  · cases h3
  · exact h3
theorem lessC_le {P : Pgm} {A B : Option Addr} {c d : Nat} {p : Pn} {k : Nat} (j : Nat) : szf P (lessC A B c d p k) j ≤ szf P p j := by
  refine szf_le (p := p) (q := lessC A B c d p k) (fun j h => h) (fun j h => ?_) j
  unfold lessC at h
  dsimp only at h
  rw [getD_set] at h
  split at h
  · exact absurd rfl h
  · exact h
/-- Where the next one of those that are kept starts. -/
def nxV (P : Pgm) (p : Pn) (j : Nat) : Int := stV (szf P p) 2 (lastV ((told (szf P p) P.fn).take j))
theorem nxV_zero (P : Pgm) (p : Pn) : nxV P p 0 = 2 := rfl
theorem fnsL_len (P : Pgm) (p : Pn) : (fnsL P p).length = (told (szf P p) P.fn).length := by unfold fnsL; rw [List.length_map]
theorem nxV_all {P : Pgm} {p : Pn} (hcd : ∀ a, a < P.fn → (gfAt P.fs a).F.code.2.1 ≤ 1000) : nxV P p (fnsL P p).length = codeV P p := by
  unfold nxV codeV
  rw [fnsL_len, List.take_length]
  exact stV_last (fun k hk => (szf_in hcd k hk).1)
theorem fnsL_next {P : Pgm} {p : Pn} (hcd : ∀ a, a < P.fn → (gfAt P.fs a).F.code.2.1 ≤ 1000) (hn : P.fn ≤ 24) {j : Nat} (hj : j < (fnsL P p).length) :
    ∃ fi it bo fr, (fnsL P p)[j]? = some ⟨fi, it, nxV P p j, bo, nxV P p (j + 1), fr⟩ ∧ nxV P p j < bo ∧ bo ≤ nxV P p (j + 1) := by
  rw [fnsL_len] at hj
  have hp : ∀ k, k < P.fn → 0 ≤ szf P p k := fun k hk => (szf_in hcd k hk).1
  have hx : (told (szf P p) P.fn)[j]? = some ((told (szf P p) P.fn).getD j 0) := by rw [List.getD_eq_getElem?_getD, List.getElem?_eq_getElem hj]; rfl
  have hf := told_follow (f := 2) hp hj
  have hm := mem_told.1 (List.mem_of_getElem? hx)
  have hnx : nxV P p (j + 1) = stV (szf P p) 2 ((told (szf P p) P.fn).getD j 0 + 1) := by
    unfold nxV
    rw [take_next (d := 0) hj, lastV_put]
  generalize (told (szf P p) P.fn).getD j 0 = x at hx hf hm hnx
  have hs := szf_code hm.2
  have hst : stV (szf P p) 2 (x + 1) = stV (szf P p) 2 x + szf P p x := rfl
  refine ⟨((gfAt P.fs x).file : Int), ((gfAt P.fs x).item : Int), stV (szf P p) 2 (x + 1) - ((gfAt P.fs x).F.code.2.1 : Int), frV (gfAt P.fs x).F, ?_, ?_, ?_⟩
  · unfold fnsL
    rw [List.getElem?_map, hx, hnx]
    unfold nxV
    rw [← hf]; rfl
  · unfold nxV; rw [← hf, hst, hs]; split <;> omega
  · rw [hnx]; omega
theorem wd_slv {α : Type} {enc : α → List Value} {f : α → Value} (he : ∀ x, enc x = [f x]) {w : World} {B : Nat} {A : Option Addr} {n c : Nat} {l : List α} (h : Wd 1 enc w B A n c l) (hn : 0 < n) : ∃ ad, A = some ad ∧ SlV w B (.slice (some ad) n c) (l.map f) := by
  obtain ⟨ad, e, hb, _⟩ := h.2.2.2.2 0 (l[0]'(by rw [h.1]; exact hn)) (List.getElem?_eq_getElem (by rw [h.1]; exact hn))
  subst e
  refine ⟨ad, rfl, ?_⟩
  have hl : (l.map f).length = n := by rw [List.length_map]; exact h.1
  have h2 := h.2.1
  have h3 := h.2.2.1
  have := SlV.at_ (w := w) (B := B) (vs := l.map f) ad c (by omega) (by omega) (fun j u hu => by
    rw [List.getElem?_map] at hu
    obtain ⟨x, hx, rfl⟩ := Option.map_eq_some_iff.1 hu
    obtain ⟨ad', e', hb', hc⟩ := h.2.2.2.2 j x hx
    cases e'
    refine ⟨hb', ?_⟩
    have h9 := hc 0 (f x) (by rw [he]; rfl)
    rw [Nat.mul_one] at h9
    rw [show (ad.add j).add 0 = ad.add j from by unfold Addr.add; simp] at h9
    exact h9)
  rwa [hl] at this
/-- A row of the call's own in which one is stored. -/
theorem row_set {w : World} {B E n c : Nat} {A : Option Addr} {xs : List Value} (h : w.ownsRow B E 1 (.slice A n c) n xs) {k : Nat} (hk : k < n) (u : Value) :
    ∃ g, A = some ⟨g, 0, none⟩ ∧ B ≤ g ∧ g < w.heap.size ∧ w.cell? ⟨g, k, none⟩ = xs[k]? ∧ w.frozen? ⟨g, k, none⟩ = false ∧ (w.setCell ⟨g, k, none⟩ u).ownsRow B E 1 (.slice A n c) n (xs.set k u) := by
  rcases h.2 with ⟨e, hn⟩ | ⟨g, cap, cur, e, hB, hg, _⟩
  · omega
  · simp only [Value.slice.injEq] at e
    obtain ⟨rfl, _, rfl⟩ := e
    exact ⟨g, rfl, hB, (h.lt g rfl).2, h.cellAt k (by omega), h.frozenAt k, (h.stored k u).1⟩
theorem grown_none {a b : World} (h : a.grownBy b none) : Below a.heap.size a b := ⟨h.os, h.tape, h.output, h.size, fun i hi => h.block i hi (by simp)⟩
theorem wd_of_own {α : Type} {enc : α → List Value} {f : α → Value} (he : ∀ x, enc x = [f x]) {w : World} {B E n c : Nat} {A : Option Addr} {l : List α} (hl : l.length = n) (h : w.ownsRow B E 1 (.slice A n c) n (l.map f)) : Wd 1 enc w w.heap.size A n c l := by
  have e : l.map f = l.flatMap enc := by
    clear h hl
    induction l with
    | nil => rfl
    | cons a l ih => rw [List.map_cons, List.flatMap_cons, he, ih]; rfl
  rw [e] at h
  exact own_wd (fun x => by rw [he]; rfl) hl h
theorem own_types {w : World} {B B' n n' k k' : Nat} {E E' : TypeId} {v u : Value} {xs ys : List Value} (h : w.ownsRow B E k v n xs) (h' : w.ownsRow B' E' k' u n' ys) (hE : E ≠ E') {b : Nat} (hb : u.ownBlock = some b) : v.ownBlock ≠ some b := by
  rcases h'.2 with ⟨rfl, _⟩ | ⟨g, cap, cur, rfl, _, hh, _⟩
  · cases hb
  · have e : g = b := by simpa [Value.ownBlock] using hb
    subst e
    rcases h.2 with ⟨rfl, _⟩ | ⟨g2, cap2, cur2, rfl, _, hh2, _⟩
    · intro e; cases e
    · intro e
      have e2 : g2 = g := by simpa [Value.ownBlock] using e
      subst e2
      rw [hh] at hh2
      injection hh2 with h3
      injection h3 with _ h4 _
      exact hE h4.symm

set_option maxRecDepth 100000 in
set_option maxHeartbeats 16000000 in
theorem less29_any (w : World) (A : Option Addr) (n c : Nat) (os : List Oj) (xs : Nat → Nat → By.Fn) (ws : Nat → Nat → List Int) (rs : Nat → Nat → List By.Rl) (h : OjsI w A n c os xs ws rs) (p : Pn) (hp : PnR w p) (at9 : Int) (ck : Bool) :
    Calls Try.prog 4 #[.slice A n c, pnV p, .int .i64 at9, .bool ck] w fun e w' => e = .returned (.bool true) ∧ Below w.heap.size w w' := by
  have HFW := Lib.hid (fun W (hb : Below w.heap.size w W) => few29_any W A n c os xs ws rs (h.on hb) p (hp.on hb))
  have HPN := Lib.hid (fun W (hb : Below w.heap.size w W) => hp.on hb)
  clear h hp
  obtain ⟨kA, kn, kc, ks, cA, cn, cc, cl⟩ := p
  unfold pnV at HFW ⊢
  dsimp only at HFW HPN ⊢
  obtain ⟨W0, hW0⟩ : ∃ W0, w.alloc (.cells #[.slice kA kn kc, .slice cA cn cc] 26) = W0 := ⟨_, rfl⟩
  have HB0 := Lib.hid (show Below w.heap.size w W0 from by rw [← hW0]; exact alloc_ _ _)
  have HPB := Lib.hid (show Blk W0 w.heap.size 26 #[.slice kA kn kc, .slice cA cn cc] from by rw [← hW0]; exact Blk.new _ _ _)
  have a0 : W0.cell? ⟨w.heap.size, 0, none⟩ = some (.slice kA kn kc) := HPB.out.cell 0
  have a1 : W0.cell? ⟨w.heap.size, 1, none⟩ = some (.slice cA cn cc) := HPB.out.cell 1
  by_cases g1 : at9 < 0 ∨ (kn : Int) ≤ at9 ∨ (cn : Int) ≤ at9
  · have d1 : ∃ b1 b2 b3 : Bool, decide (at9 < 0) = b1 ∧ decide ((kn : Int) ≤ at9) = b2 ∧ decide ((cn : Int) ≤ at9) = b3 ∧ (b1 || b2 || b3) = true := by
      refine ⟨_, _, _, rfl, rfl, rfl, ?_⟩
      simp
      omega
    clear g1
    obtain ⟨b1, b2, b3, e1, e2, e3, e5⟩ := d1
    cases b1 <;> cases b2 <;> cases b3 <;> first
      | (exfalso; revert e5; decide)
      | (clear e5
         go_enter Try.func4, Try.ntmps4
         go_wp2_with (go_at_call 6; refine (HFW.out W0 HB0.out).mono ?_; rintro e w2 ⟨P, b, rfl, hpp, hb2⟩; have HPP := Lib.hid hpp; have HB2 := Lib.hid hb2; clear hpp hb2 hW0 a0 a1; obtain ⟨fA, fn, fc, fs, dA, dn, dc, ds, en, cs⟩ := P; unfold pgV; dsimp only; have q9 := HPB.out.below (to_ HB2.out (alloc_ w2 (.cells #[.slice fA fn fc, .slice dA dn dc, .int .i64 en] 30))) HPB.out.lt; have a0 : (w2.alloc (.cells #[.slice fA fn fc, .slice dA dn dc, .int .i64 en] 30)).cell? ⟨w.heap.size, 0, none⟩ = some (.slice kA kn kc) := q9.cell 0; have a1 : (w2.alloc (.cells #[.slice fA fn fc, .slice dA dn dc, .int .i64 en] 30)).cell? ⟨w.heap.size, 1, none⟩ = some (.slice cA cn cc) := q9.cell 1; clear q9; cases b)
         · go_wp2_with (go_at_call 7; refine (known29_any _).mono ?_; rintro e w9 ⟨rfl, hb9⟩; have HB9 := Lib.hid hb9; clear hb9)
           go_ret
           exact ⟨rfl, to_ HB0.out (to_ HB2.out (to_ (alloc_ _ _) HB9.out))⟩
         · go_wp2_with (go_at_call 7; refine (known29_any _).mono ?_; rintro e w9 ⟨rfl, hb9⟩; have HB9 := Lib.hid hb9; clear hb9)
           go_ret
           exact ⟨rfl, to_ HB0.out (to_ HB2.out (to_ (alloc_ _ _) HB9.out))⟩
        )
  · obtain ⟨k, rfl⟩ := Int.eq_ofNat_of_zero_le (show 0 ≤ at9 by omega)
    have hk0 : (0 : Int) ≤ (k : Int) := by omega
    have e1 : ¬ (k : Int) < 0 := by omega
    have e2 : ¬ (kn : Int) ≤ (k : Int) := by omega
    have e3 : ¬ (cn : Int) ≤ (k : Int) := by omega
    have HKL := Lib.hid (show k < kn ∧ k < cn by omega)
    clear g1
    go_enter Try.func4, Try.ntmps4
    go_wp2_with (go_at_call 6; refine (HFW.out W0 HB0.out).mono ?_; rintro e w2 ⟨P, b, rfl, hpp, hb2⟩; have HPP := Lib.hid hpp; have HB2 := Lib.hid hb2; clear hpp hb2 hW0 a0 a1; obtain ⟨fA, fn, fc, fs, dA, dn, dc, ds, en, cs⟩ := P; unfold pgV; dsimp only; have q9 := HPB.out.below (to_ HB2.out (alloc_ w2 (.cells #[.slice fA fn fc, .slice dA dn dc, .int .i64 en] 30))) HPB.out.lt; have a0 : (w2.alloc (.cells #[.slice fA fn fc, .slice dA dn dc, .int .i64 en] 30)).cell? ⟨w.heap.size, 0, none⟩ = some (.slice kA kn kc) := q9.cell 0; have a1 : (w2.alloc (.cells #[.slice fA fn fc, .slice dA dn dc, .int .i64 en] 30)).cell? ⟨w.heap.size, 1, none⟩ = some (.slice cA cn cc) := q9.cell 1; clear q9; cases b)
    · go_wp2_with (go_at_call 7; refine (known29_any _).mono ?_; rintro e w9 ⟨rfl, hb9⟩; have HB9 := Lib.hid hb9; clear hb9)
      go_ret
      exact ⟨rfl, to_ HB0.out (to_ HB2.out (to_ (alloc_ _ _) HB9.out))⟩
    · have HQ6 := Lib.hid (HPP.out (by trivial)).2
      have HPQ := Lib.hid (HPP.out (by trivial)).1
      clear HPP a0 a1
      obtain ⟨W4, hW4⟩ : ∃ x, w2.alloc (.cells #[.slice fA fn fc, .slice dA dn dc, .int .i64 en] 30) = x := ⟨_, rfl⟩
      rw [hW4]
      have HW4 := Lib.hid (show Below w2.heap.size w2 W4 from by rw [← hW4]; exact alloc_ _ _)
      have HPX := Lib.hid (show Blk W4 w2.heap.size 30 #[.slice fA fn fc, .slice dA dn dc, .int .i64 en] from by rw [← hW4]; exact Blk.new _ _ _)
      clear hW4
      have HP4 := Lib.hid (fun W (hb : Below W4.heap.size W4 W) => HPQ.out.on (to_ HW4.out hb))
      have HBW := Lib.hid (show Below w.heap.size w W4 from to_ HB0.out (to_ HB2.out HW4.out))
      have HN4 := Lib.hid (fun W (hb : Below W4.heap.size W4 W) => HPN.out W (to_ HBW.out hb))
      have HPY := Lib.hid (HPB.out.below (to_ HB2.out HW4.out) HPB.out.lt)
      have HKK := Lib.hid HPQ.out.kk
      have HFN := Lib.hid (show fn ≤ 24 ∧ dn ≤ 24 from HPQ.out.few)
      have HCD := Lib.hid (HPQ.out.rdF (HPN.out w2 (to_ HB0.out HB2.out))).cd
      have HX := Lib.hid (show ∀ W, Below W4.heap.size W4 W → W.cell? ⟨w2.heap.size, 0, none⟩ = some (.slice fA fn fc) ∧ W.cell? ⟨w2.heap.size, 1, none⟩ = some (.slice dA dn dc) ∧ W.cell? ⟨w2.heap.size, 2, none⟩ = some (.int .i64 en) ∧ W.cell? ⟨w.heap.size, 0, none⟩ = some (.slice kA kn kc) ∧ W.cell? ⟨w.heap.size, 1, none⟩ = some (.slice cA cn cc) from fun W hb => ⟨(HPX.out.below hb HPX.out.lt).cell 0, (HPX.out.below hb HPX.out.lt).cell 1, (HPX.out.below hb HPX.out.lt).cell 2, (HPY.out.below hb HPY.out.lt).cell 0, (HPY.out.below hb HPY.out.lt).cell 1⟩)
      have HKS := Lib.hid (show ks.length = kn ∧ cl.length = cn from ⟨(HN4.out W4 (Below.refl _ _)).k.1, (HN4.out W4 (Below.refl _ _)).c.1⟩)
      have HSK := Lib.hid (fun W (hb : Below W4.heap.size W4 W) => wd_slv (f := Value.bool) (fun _ => rfl) (HN4.out W hb).k (show 0 < kn by have := HKL.out; omega))
      have HSC := Lib.hid (fun W (hb : Below W4.heap.size W4 W) => wd_slv (f := Value.int .i64) (fun _ => rfl) (HN4.out W hb).c (show 0 < cn by have := HKL.out; omega))
      dsimp only at HSK HSC
      obtain ⟨adk, hadk, -⟩ := HSK.out W4 (Below.refl _ _)
      obtain ⟨adc, hadc, -⟩ := HSC.out W4 (Below.refl _ _)
      subst hadk hadc
      have HMX := Lib.hid (show kn ≤ 60 ∧ cn ≤ 60 from HQ6.out)
      have HFS := Lib.hid (fun W hb => fns_any W _ _ ((HP4.out W hb).rdF (HN4.out W hb)) HKK.out)
      have HCO := Lib.hid (fun W hb => code_any W _ _ ((HP4.out W hb).rdF (HN4.out W hb)))
      have HST := Lib.hid (fun W hb => starts_any W _ _ ((HP4.out W hb).rdF (HN4.out W hb)))
      have HCQ := Lib.hid (fun W hb q (hq : PnR W q) => code_any W _ _ ((HP4.out W hb).rdF hq))
      have HSQ := Lib.hid (fun W hb q (hq : PnR W q) => starts_any W _ _ ((HP4.out W hb).rdF hq))
      have HNX := Lib.hid (fun j => @fnsL_next ⟨fA, fn, fc, fs, dA, dn, dc, ds, en, cs⟩ ⟨some adk, kn, kc, ks, some adc, cn, cc, cl⟩ HCD.out HFN.out.1 j)
      have HNA := Lib.hid (@nxV_all ⟨fA, fn, fc, fs, dA, dn, dc, ds, en, cs⟩ ⟨some adk, kn, kc, ks, some adc, cn, cc, cl⟩ HCD.out)
      have HN0 := Lib.hid (nxV_zero ⟨fA, fn, fc, fs, dA, dn, dc, ds, en, cs⟩ ⟨some adk, kn, kc, ks, some adc, cn, cc, cl⟩)
      have HLQ := Lib.hid (show ∀ q : Pn, (∀ j, szf ⟨fA, fn, fc, fs, dA, dn, dc, ds, en, cs⟩ q j ≤ szf ⟨fA, fn, fc, fs, dA, dn, dc, ds, en, cs⟩ ⟨some adk, kn, kc, ks, some adc, cn, cc, cl⟩ j) → (∀ j, j < fn → (startsL ⟨fA, fn, fc, fs, dA, dn, dc, ds, en, cs⟩ q).getD j 0 ≤ (startsL ⟨fA, fn, fc, fs, dA, dn, dc, ds, en, cs⟩ ⟨some adk, kn, kc, ks, some adc, cn, cc, cl⟩).getD j 0) ∧ codeV ⟨fA, fn, fc, fs, dA, dn, dc, ds, en, cs⟩ q ≤ codeV ⟨fA, fn, fc, fs, dA, dn, dc, ds, en, cs⟩ ⟨some adk, kn, kc, ks, some adc, cn, cc, cl⟩ from fun q hq => ⟨fun j hj => by rw [startsL_at hj, startsL_at hj]; exact startV_le HCD.out hq hj, codeV_le hq⟩)
      unfold pgV pnV at HFS HCO HST
      unfold pgV pnV at HCQ HSQ
      dsimp only at HFS HCO HST HCQ HSQ HNX HNA HLQ
      obtain ⟨l1, hl1⟩ : ∃ x, startsL ⟨fA, fn, fc, fs, dA, dn, dc, ds, en, cs⟩ ⟨some adk, kn, kc, ks, some adc, cn, cc, cl⟩ = x := ⟨_, rfl⟩
      obtain ⟨z1, hz1⟩ : ∃ x, codeV ⟨fA, fn, fc, fs, dA, dn, dc, ds, en, cs⟩ ⟨some adk, kn, kc, ks, some adc, cn, cc, cl⟩ = x := ⟨_, rfl⟩
      obtain ⟨l3, hl3⟩ : ∃ x, fnsL ⟨fA, fn, fc, fs, dA, dn, dc, ds, en, cs⟩ ⟨some adk, kn, kc, ks, some adc, cn, cc, cl⟩ = x := ⟨_, rfl⟩
      obtain ⟨nx, hnx⟩ : ∃ x, nxV ⟨fA, fn, fc, fs, dA, dn, dc, ds, en, cs⟩ ⟨some adk, kn, kc, ks, some adc, cn, cc, cl⟩ = x := ⟨_, rfl⟩
      rw [hl1] at HST HLQ
      rw [hz1] at HCO HNA HLQ
      rw [hl3] at HFS HNX HNA
      rw [hnx] at HNX HNA HN0
      obtain ⟨m, hm⟩ : ∃ m, l3.length = m := ⟨_, rfl⟩
      rw [hm] at HFS HNX HNA
      have HM := Lib.hid (show m ≤ 24 from by rw [← hm, ← hl3, fnsL_len]; exact Nat.le_trans told_len HFN.out.1)
      clear hl1 hz1 hl3 hnx hm
      have hn0 := HN0.out
      obtain ⟨x0, x1, x2, x3, x4⟩ := HX.out W4 (Below.refl _ _)
      go_wp2_with (go_at_call 18; refine (HFS.out W4 (Below.refl _ _)).mono ?_; rintro e w5 ⟨A5, c5, rfl, hfl, hb5⟩; have HB5 := Lib.hid hb5; have HI5 := Lib.hid hfl; clear hfl hb5 x0 x1 x2 x3 x4)
      go_loopw [11, 13] (fun st i9 wr => ∃ j : Nat, j ≤ m ∧ i9 = .int .i64 (j : Int) ∧ st = .int .i64 (nx j) ∧ Below w5.heap.size w5 wr) (fun _ i9 _ => m - (intOf i9).toNat)
      case atStart => exact ⟨0, Nat.zero_le _, rfl, by rw [hn0], Below.refl _ _⟩
      case round =>
        obtain ⟨j, hj, rfl, rfl, hbel⟩ := hrel
        by_cases hlt : j < m
        · have hjI : (j : Int) < (m : Int) := by omega
          have hj0 : (0 : Int) ≤ (j : Int) := by omega
          have hmm := HM.out
          obtain ⟨ad, a6, b6, c6, d6, e6, f6, rfl, hl, y0, y1, y2, y3, y4, y5⟩ := fl_at (HI5.out.on hbel) hlt
          obtain ⟨fi, it, bo, fr, hl2, hlt1, hle1⟩ := HNX.out j hlt
          rw [hl] at hl2
          simp only [Option.some.injEq, F6.mk.injEq] at hl2
          obtain ⟨rfl, rfl, h3, rfl, h5, rfl⟩ := hl2
          obtain ⟨x, hx⟩ : ∃ x, nx j = x := ⟨_, rfl⟩
          have HY := Lib.hid h5
          rw [hx] at h3 hlt1 ⊢
          rw [← h5] at hle1
          rw [h3] at y2
          have hxx : (x != x) = false := by simp
          have hnb : ¬ d6 ≤ x := by omega
          have hne : ¬ e6 < d6 := by omega
          have HBE := Lib.hid hbel
          clear hx h3 h5 hl hlt1 hle1 hbel
          go_wp2_with fail
          go_quiet (fail)
          go_wp2_with fail
          go_roundw
          case rel => exact ⟨j + 1, by omega, by go_num, by rw [HY.out], below_drewN HBE.out _⟩
          case measure => simp [intOf]; omega
        · obtain rfl : j = m := by omega
          rw [HNA.out]
          have hzz1 : (z1 != z1) = false := by simp
          have HBE := Lib.hid (to_ HB5.out hbel)
          obtain ⟨x0, x1, x2, x3, x4⟩ := HX.out wr HBE.out
          clear hbel hlt
          obtain ⟨iB, hiB, hzB0, hzB1, hzB2⟩ := info_split By.infoB
          obtain ⟨iI, hiI, hzI0, hzI1, hzI2⟩ := info_split infoInt
          have hks := HKS.out.1
          have hcs := HKS.out.2
          cases ck with
          | false =>
            go_wp2_with (go_at_call 11; refine (HCO.out wr HBE.out).mono ?_; rintro e w6 ⟨rfl, hb6⟩; have HB6 := Lib.hid (to_ HBE.out hb6); clear hb6 x0 x1 x2 x3 x4; have HB7 := Lib.hid (to_ HB6.out (alloc_ w6 (.cells #[.slice none 0 0, .slice none 0 0] 26))); have HD7 := Lib.hid (Blk.new w6 26 #[.slice none 0 0, .slice none 0 0]); have HS7 := Lib.hid (show (w6.alloc (.cells #[.slice none 0 0, .slice none 0 0] 26)).heap.size = w6.heap.size + 1 from by simp); have HDW := Lib.hid (show W4.heap.size ≤ w6.heap.size from HB6.out.size); obtain ⟨-, -, -, x3, x4⟩ := HX.out _ HB7.out; obtain ⟨ad9, h9, HSK7⟩ := HSK.out _ HB7.out; obtain rfl := Option.some.inj h9; have HSK7 := Lib.hid HSK7; clear h9; go_wp2_with (at_builtin; go_must (refine wpList_append_slv _ rfl _ _ 23 rfl (w6.heap.size + 1) 4 iB (.bool false) 1 Try.underlying23 hiB hzB0 hzB1 hzB2 rfl _ [] rfl (World.ownsRow_nil _ _ _ _) _ _ (ks.map Value.bool) rfl HSK7.out (by intro y hy; obtain ⟨b9, -, rfl⟩ := List.mem_map.1 hy; rfl) (by simp only [List.length_nil, List.length_map, hks]; have h8 := HMX.out.1; unfold maxLen; omega) (by simp only [List.length_nil, List.length_map, hks]; have h8 := HMX.out.1; omega) (by rw [HS7.out]; exact Nat.le_refl _) ?_; intro v' w8 h2 h3; rw [List.nil_append, List.length_map, hks] at h2; have HB8 := Lib.hid (grown_none (show (w6.alloc (.cells #[.slice none 0 0, .slice none 0 0] 26)).grownBy w8 none from h3)); obtain ⟨A7, c7, rfl⟩ := own_form h2; obtain ⟨g1, rfl, hg1, hg1s, -, -, -⟩ := row_set h2 HKL.out.1 (.bool false); have HO1 := Lib.hid h2; have HG1 := Lib.hid hg1; have HD8 := Lib.hid (HD7.out.below HB8.out HD7.out.lt); have e0 : w8.cell? ⟨w6.heap.size, 0, none⟩ = some (.slice none 0 0) := HD8.out.cell 0; have f0 := HD8.out.frozen 0; clear h2 h3 hg1 hg1s x3 x4; obtain ⟨W9, hW9⟩ : ∃ x, w8.setCell ⟨w6.heap.size, 0, none⟩ (.slice (some ⟨g1, 0, none⟩) kn c7) = x := ⟨_, rfl⟩; have HD9 : Hid (Blk W9 w6.heap.size 26 #[.slice (some ⟨g1, 0, none⟩) kn c7, .slice none 0 0]) := Lib.hid (by rw [← hW9]; exact HD8.out.stored 0 _); have HO9 := Lib.hid (show W9.ownsRow (w6.heap.size + 1) 4 1 (.slice (some ⟨g1, 0, none⟩) kn c7) kn (ks.map Value.bool) from by rw [← hW9]; exact own_cell HO1.out _ _ (by show w6.heap.size < w6.heap.size + 1; omega)); have HB9 := Lib.hid (show Below W4.heap.size W4 W9 from by rw [← hW9]; exact (to_ HB7.out HB8.out).setCell (p := ⟨w6.heap.size, 0, none⟩) HDW.out _); have HSZ9 := Lib.hid (show w6.heap.size + 1 ≤ W9.heap.size from by rw [← hW9, show ∀ (X : World) (p : Addr) (v : Value), (X.setCell p v).heap.size = X.heap.size from fun X p v => by simp [World.setCell]]; have := HB8.out.size; rw [HS7.out] at this; exact this); obtain ⟨-, -, -, x3, x4⟩ := HX.out _ HB9.out; have n1 : W9.cell? ⟨w6.heap.size, 1, none⟩ = some (.slice none 0 0) := HD9.out.cell 1; obtain ⟨ad9, h9, HSC9⟩ := HSC.out _ HB9.out; obtain rfl := Option.some.inj h9; have HSC9 := Lib.hid HSC9; clear h9; go_wp2_with (at_builtin; go_must (refine wpList_append_slv _ rfl _ _ 24 rfl (w6.heap.size + 1) 3 iI (.int .i64 0) 8 Try.underlying24 hiI hzI0 hzI1 hzI2 rfl _ [] rfl (World.ownsRow_nil _ _ _ _) _ _ (cl.map (Value.int .i64)) rfl HSC9.out (by intro y hy; obtain ⟨b9, -, rfl⟩ := List.mem_map.1 hy; rfl) (by simp only [List.length_nil, List.length_map, hcs]; have h8 := HMX.out.2; unfold maxLen; omega) (by simp only [List.length_nil, List.length_map, hcs]; have h8 := HMX.out.2; omega) HSZ9.out ?_; intro v' w10 h2 h3; rw [List.nil_append, List.length_map, hcs] at h2; have HB10 := Lib.hid (grown_none (show W9.grownBy w10 none from h3)); obtain ⟨A8, c8, rfl⟩ := own_form h2; obtain ⟨g2, rfl, hg2, -, -, -, -⟩ := row_set h2 HKL.out.2 (.int .i64 0); have HO2 := Lib.hid h2; have HG2 := Lib.hid hg2; have HD10 := Lib.hid (HD9.out.below HB10.out HD9.out.lt); have e1 : w10.cell? ⟨w6.heap.size, 1, none⟩ = some (.slice none 0 0) := HD10.out.cell 1; have f1 := HD10.out.frozen 1; clear h2 h3 hg2 x3 x4 n1 hW9 e0 f0; obtain ⟨W11, hW11⟩ : ∃ x, w10.setCell ⟨w6.heap.size, 1, none⟩ (.slice (some ⟨g2, 0, none⟩) cn c8) = x := ⟨_, rfl⟩; have HD11 : Hid (Blk W11 w6.heap.size 26 #[.slice (some ⟨g1, 0, none⟩) kn c7, .slice (some ⟨g2, 0, none⟩) cn c8]) := Lib.hid (by rw [← hW11]; exact HD10.out.stored 1 _); have HO11 := Lib.hid (show W11.ownsRow (w6.heap.size + 1) 4 1 (.slice (some ⟨g1, 0, none⟩) kn c7) kn (ks.map Value.bool) from by rw [← hW11]; exact own_cell (own_on HO9.out HB10.out) _ _ (by show w6.heap.size < w6.heap.size + 1; omega)); have HI11 := Lib.hid (show W11.ownsRow (w6.heap.size + 1) 3 1 (.slice (some ⟨g2, 0, none⟩) cn c8) cn (cl.map (Value.int .i64)) from by rw [← hW11]; exact own_cell HO2.out _ _ (by show w6.heap.size < w6.heap.size + 1; omega)); have HB11 := Lib.hid (show Below W4.heap.size W4 W11 from by rw [← hW11]; exact (to_ HB9.out HB10.out).setCell (p := ⟨w6.heap.size, 1, none⟩) HDW.out _); have HNE := Lib.hid (show g1 ≠ g2 from fun e => own_types HO11.out HI11.out (by decide) (b := g2) rfl (by rw [e]; rfl)); have m0 : W11.cell? ⟨w6.heap.size, 0, none⟩ = some (.slice (some ⟨g1, 0, none⟩) kn c7) := HD11.out.cell 0; have m1 : W11.cell? ⟨w6.heap.size, 1, none⟩ = some (.slice (some ⟨g2, 0, none⟩) cn c8) := HD11.out.cell 1; obtain ⟨gz, ez, -, -, rc, rf, rs⟩ := row_set HO11.out HKL.out.1 (.bool false); obtain rfl : g1 = gz := (by injection ez with ez; injection ez); rw [List.getElem?_map, List.getElem?_eq_getElem (show k < ks.length by rw [hks]; exact HKL.out.1), Option.map_some] at rc; have HRS := Lib.hid rs; clear rs ez; obtain ⟨W12, hW12⟩ : ∃ x, W11.setCell ⟨g1, k, none⟩ (.bool false) = x := ⟨_, rfl⟩; have HGN := Lib.hid (show w6.heap.size ≠ g1 from by have h7 := HG1.out; have h8 := HG2.out; omega); have HD12 : Hid (Blk W12 w6.heap.size 26 #[.slice (some ⟨g1, 0, none⟩) kn c7, .slice (some ⟨g2, 0, none⟩) cn c8]) := Lib.hid (by rw [← hW12]; exact blk_far HD11.out HGN.out); have HB12 := Lib.hid (show Below W4.heap.size W4 W12 from by rw [← hW12]; exact HB11.out.setCell (p := ⟨g1, k, none⟩) (by show W4.heap.size ≤ g1; have h6 := HDW.out; have h7 := HG1.out; have h8 := HG2.out; omega) _); have HOT := Lib.hid (own_keep1 (w' := W12) HI11.out fun gg _ _ hob => by rw [← hW12]; exact Below.heap_setCell _ ⟨g1, k, none⟩ _ gg (fun e => HNE.out (by have h9 : some g2 = some gg := hob; injection h9 with h9; have h10 : gg = g1 := e; omega))); have HQ := Lib.hid (show PnR W12 ⟨some ⟨g1, 0, none⟩, kn, c7, ks.set k false, some ⟨g2, 0, none⟩, cn, c8, cl⟩ from ⟨wd_of_own (enc := encB) (f := Value.bool) (fun _ => rfl) (by rw [List.length_set]; exact hks) (by rw [← hW12, List.map_set]; exact HRS.out), wd_of_own (enc := encI) (fun _ => rfl) hcs HOT.out⟩); have HLX := Lib.hid (HLQ.out ⟨some ⟨g1, 0, none⟩, kn, c7, ks.set k false, some ⟨g2, 0, none⟩, cn, c8, cl⟩ (fun j => lessK_le (A := some ⟨g1, 0, none⟩) (B := some ⟨g2, 0, none⟩) (c := c7) (d := c8) (p := ⟨some adk, kn, kc, ks, some adc, cn, cc, cl⟩) (k := k) j)); have HSQ9 := Lib.hid (fun W hb hq => HSQ.out W hb ⟨some ⟨g1, 0, none⟩, kn, c7, ks.set k false, some ⟨g2, 0, none⟩, cn, c8, cl⟩ hq); have HCQ9 := Lib.hid (fun W hb hq => HCQ.out W hb ⟨some ⟨g1, 0, none⟩, kn, c7, ks.set k false, some ⟨g2, 0, none⟩, cn, c8, cl⟩ hq); dsimp only at HSQ9 HCQ9; obtain ⟨lq, hlq⟩ : ∃ x, startsL ⟨fA, fn, fc, fs, dA, dn, dc, ds, en, cs⟩ ⟨some ⟨g1, 0, none⟩, kn, c7, ks.set k false, some ⟨g2, 0, none⟩, cn, c8, cl⟩ = x := ⟨_, rfl⟩; obtain ⟨zq, hzq⟩ : ∃ x, codeV ⟨fA, fn, fc, fs, dA, dn, dc, ds, en, cs⟩ ⟨some ⟨g1, 0, none⟩, kn, c7, ks.set k false, some ⟨g2, 0, none⟩, cn, c8, cl⟩ = x := ⟨_, rfl⟩; rw [hlq] at HSQ9 HLX; rw [hzq] at HCQ9 HLX; clear hlq hzq; obtain ⟨x0, x1, x2, x3, x4⟩ := HX.out W12 HB12.out; have n0 : W12.cell? ⟨w6.heap.size, 0, none⟩ = some (.slice (some ⟨g1, 0, none⟩) kn c7) := HD12.out.cell 0; have n1 : W12.cell? ⟨w6.heap.size, 1, none⟩ = some (.slice (some ⟨g2, 0, none⟩) cn c8) := HD12.out.cell 1; go_wp2_with (go_at_call 9; refine (HST.out W12 HB12.out).mono ?_; rintro e w13 ⟨A13, c13, rfl, hil, hb13⟩; have HC13 := Lib.hid hb13; have HB13 := Lib.hid (to_ HB12.out hb13); have HI13 := Lib.hid hil; have HD13 := Lib.hid (HD12.out.below hb13 HD12.out.lt); clear hil hb13 x0 x1 x2 x3 x4 n0 n1 m0 m1 rc rf hW11 hW12 e1 f1; obtain ⟨x0, x1, x2, x3, x4⟩ := HX.out w13 HB13.out; have n0 : w13.cell? ⟨w6.heap.size, 0, none⟩ = some (.slice (some ⟨g1, 0, none⟩) kn c7) := HD13.out.cell 0; have n1 : w13.cell? ⟨w6.heap.size, 1, none⟩ = some (.slice (some ⟨g2, 0, none⟩) cn c8) := HD13.out.cell 1; go_wp2_with (go_at_call 9; refine (HSQ9.out w13 HB13.out (HQ.out.on HC13.out)).mono ?_; rintro e w14 ⟨A14, c14, rfl, hil, hb14⟩; have HB14 := Lib.hid (to_ HB13.out hb14); have HC14 := Lib.hid (to_ HC13.out hb14); have HI14 := Lib.hid hil; have HJ13 := Lib.hid (HI13.out.on hb14); have HD14 := Lib.hid (HD13.out.below hb14 HD13.out.lt); clear hil hb14 x0 x1 x2 x3 x4 n0 n1; obtain ⟨x0, x1, x2, x3, x4⟩ := HX.out w14 HB14.out)))))))
            clear x0 x1 x2 x3 x4
            go_loopw [17] (fun i9 wr => ∃ j : Nat, j ≤ fn ∧ i9 = .int .i64 (j : Int) ∧ Below w14.heap.size w14 wr) (fun i9 _ => fn - (intOf i9).toNat)
            case atStart => exact ⟨0, Nat.zero_le _, rfl, Below.refl _ _⟩
            case round =>
              obtain ⟨j, hj, rfl, hbel⟩ := hrel
              have hfn := HFN.out.1
              by_cases hlt : j < fn
              · have hjI : (j : Int) < (fn : Int) := by omega
                have hj0 : (0 : Int) ≤ (j : Int) := by omega
                obtain ⟨ad, rfl, h1, y1⟩ := (HJ13.out.on hbel).at_ hlt
                obtain ⟨ae, rfl, h2, y2⟩ := (HI14.out.on hbel).at_ hlt
                have hle := HLX.out.1 j hlt
                obtain ⟨xa, hxa⟩ : ∃ x, l1.getD j 0 = x := ⟨_, rfl⟩
                obtain ⟨xb, hxb⟩ : ∃ x, lq.getD j 0 = x := ⟨_, rfl⟩
                rw [hxa] at y1 hle
                rw [hxb] at y2 hle
                have hng : ¬ xa < xb := by omega
                have HBE := Lib.hid hbel
                clear hxa hxb hle hbel h1 h2
                go_wp2_with fail
                go_quiet (fail)
                go_wp2_with fail
                go_roundw
                case rel => exact ⟨j + 1, by omega, by go_num, below_drewN HBE.out _⟩
                case measure => simp [intOf]; omega
              · obtain rfl : j = fn := by omega
                have HBE := Lib.hid (to_ HB14.out hbel)
                have HCE := Lib.hid (to_ HC14.out hbel)
                have HD15 := Lib.hid (HD14.out.below hbel HD14.out.lt)
                have hle := HLX.out.2
                clear hbel hlt
                go_wp2_with fail
                obtain ⟨x0, x1, x2, x3, x4⟩ := HX.out wr HBE.out
                refine wp_region_noPanic ?_
                refine wp_region_held_drew (S := fun W => W.cell? ⟨w2.heap.size, 0, none⟩ = some (.slice fA j fc) ∧ W.cell? ⟨w2.heap.size, 1, none⟩ = some (.slice dA dn dc) ∧ W.cell? ⟨w2.heap.size, 2, none⟩ = some (.int .i64 en) ∧ W.cell? ⟨w.heap.size, 0, none⟩ = some (.slice (some adk) kn kc) ∧ W.cell? ⟨w.heap.size, 1, none⟩ = some (.slice (some adc) cn cc) ∧ W.cell? ⟨w6.heap.size, 0, none⟩ = some (.slice (some ⟨g1, 0, none⟩) kn c7) ∧ W.cell? ⟨w6.heap.size, 1, none⟩ = some (.slice (some ⟨g2, 0, none⟩) cn c8)) (by kernel_rfl) (⟨x0, x1, x2, x3, x4, HD15.out.cell 0, HD15.out.cell 1⟩) (fun hHeld => ?_)
                clear x0 x1 x2 x3 x4
                refine wpAnyH_take (i := 0) rfl (by kernel_rfl) (by kernel_rfl) (by kernel_rfl) (fun _ _ _ h => h) (Or.inl ⟨by rfl, by intro W hSW; (try dsimp only at hSW); go_simp; try (with_reducible rfl)⟩) hHeld ?_
                try simp only [Act.put, List.getElem_toArray, List.getElem_cons_zero, List.getElem_cons_succ, List.setIfInBounds_toArray, List.set_cons_zero, List.set_cons_succ]
                refine wpAnyH_take (i := 1) rfl (by kernel_rfl) (by kernel_rfl) (by kernel_rfl) (fun _ _ _ h => h) (Or.inl ⟨by rfl, by intro W hSW; (try dsimp only at hSW); go_simp; try (with_reducible rfl)⟩) hHeld ?_
                try simp only [Act.put, List.getElem_toArray, List.getElem_cons_zero, List.getElem_cons_succ, List.setIfInBounds_toArray, List.set_cons_zero, List.set_cons_succ]
                refine wpAnyH_take (i := 3) rfl (by kernel_rfl) (by kernel_rfl) (by kernel_rfl) (fun _ _ _ h => h) (Or.inl ⟨by rfl, by intro W hSW; (try dsimp only at hSW); go_simp; try (with_reducible rfl)⟩) hHeld ?_
                try simp only [Act.put, List.getElem_toArray, List.getElem_cons_zero, List.getElem_cons_succ, List.setIfInBounds_toArray, List.set_cons_zero, List.set_cons_succ]
                refine wpAnyH_take (i := 4) rfl (by kernel_rfl) (by kernel_rfl) (by kernel_rfl) (fun _ _ _ h => h) (Or.inl ⟨by rfl, by intro W hSW; (try dsimp only at hSW); go_simp; try (with_reducible rfl)⟩) hHeld ?_
                try simp only [Act.put, List.getElem_toArray, List.getElem_cons_zero, List.getElem_cons_succ, List.setIfInBounds_toArray, List.set_cons_zero, List.set_cons_succ]
                refine wpAnyH_ready (rs := [2]) (by kernel_rfl) (by simp) ?_
                refine AllReadyH.cons rfl (fun K hK => ?_) AllReadyH.nil
                go_simp
                refine (HCQ9.out _ HBE.out.drew (HQ.out.on HCE.out.drew)).mono ?_; rintro e u1 ⟨rfl, hb⟩; have HB21 := Lib.hid (to_ HBE.out.drew hb); have HU := Lib.hid hb; clear hb
                try go_wp2_with fail
                refine hK.out _ _ (⟨cell_on hHeld.1 HU.out, cell_on hHeld.2.1 HU.out, cell_on hHeld.2.2.1 HU.out, cell_on hHeld.2.2.2.1 HU.out, cell_on hHeld.2.2.2.2.1 HU.out, cell_on hHeld.2.2.2.2.2.1 HU.out, cell_on hHeld.2.2.2.2.2.2 HU.out⟩) ?_
                clear hK K hHeld
                intro hHeld
                try simp only [Act.put, List.getElem_toArray, List.getElem_cons_zero, List.getElem_cons_succ, List.setIfInBounds_toArray, List.set_cons_zero, List.set_cons_succ]
                refine wpAnyH_ready (rs := [5]) (by kernel_rfl) (by simp) ?_
                refine AllReadyH.cons rfl (fun K hK => ?_) AllReadyH.nil
                go_simp
                refine (HCO.out _ HB21.out).mono ?_; rintro e u2 ⟨rfl, hb⟩; have HB22 := Lib.hid (to_ HB21.out hb); have HU := Lib.hid hb; clear hb
                try go_wp2_with fail
                refine hK.out _ _ (⟨cell_on hHeld.1 HU.out, cell_on hHeld.2.1 HU.out, cell_on hHeld.2.2.1 HU.out, cell_on hHeld.2.2.2.1 HU.out, cell_on hHeld.2.2.2.2.1 HU.out, cell_on hHeld.2.2.2.2.2.1 HU.out, cell_on hHeld.2.2.2.2.2.2 HU.out⟩) ?_
                clear hK K hHeld
                intro hHeld
                try simp only [Act.put, List.getElem_toArray, List.getElem_cons_zero, List.getElem_cons_succ, List.setIfInBounds_toArray, List.set_cons_zero, List.set_cons_succ]
                refine wpAnyH_take (i := 6) rfl (by kernel_rfl) (by kernel_rfl) (by kernel_rfl) (fun _ _ _ h => h) (Or.inl ⟨by rfl, by intro W hSW; (try dsimp only at hSW); go_simp; try (with_reducible rfl)⟩) hHeld ?_
                try simp only [Act.put, List.getElem_toArray, List.getElem_cons_zero, List.getElem_cons_succ, List.setIfInBounds_toArray, List.set_cons_zero, List.set_cons_succ]
                refine wpAnyH_take (i := 7) rfl (by kernel_rfl) (by kernel_rfl) (by kernel_rfl) (fun _ _ _ h => h) (Or.inl ⟨by rfl, by intro W hSW; (try dsimp only at hSW); go_simp; try (with_reducible rfl)⟩) hHeld ?_
                try simp only [Act.put, List.getElem_toArray, List.getElem_cons_zero, List.getElem_cons_succ, List.setIfInBounds_toArray, List.set_cons_zero, List.set_cons_succ]
                refine wpAnyH_ready (rs := [8]) (by kernel_rfl) (by simp) ?_
                refine AllReadyH.cons rfl (fun K hK => ?_) AllReadyH.nil
                go_simp
                refine (known29_any _).mono ?_; rintro e u3 ⟨rfl, hb⟩; have HB23 := Lib.hid (to_ HB22.out hb); have HU := Lib.hid hb; clear hb
                try go_wp2_with fail
                refine hK.out _ _ (⟨cell_on hHeld.1 HU.out, cell_on hHeld.2.1 HU.out, cell_on hHeld.2.2.1 HU.out, cell_on hHeld.2.2.2.1 HU.out, cell_on hHeld.2.2.2.2.1 HU.out, cell_on hHeld.2.2.2.2.2.1 HU.out, cell_on hHeld.2.2.2.2.2.2 HU.out⟩) ?_
                clear hK K hHeld
                intro hHeld
                try simp only [Act.put, List.getElem_toArray, List.getElem_cons_zero, List.getElem_cons_succ, List.setIfInBounds_toArray, List.set_cons_zero, List.set_cons_succ]
                refine wpAnyH_take (i := 9) rfl (by kernel_rfl) (by kernel_rfl) (by kernel_rfl) (fun _ _ _ h => h) (Or.inl ⟨by rfl, by intro W hSW; (try dsimp only at hSW); go_simp; try (with_reducible rfl)⟩) hHeld ?_
                try simp only [Act.put, List.getElem_toArray, List.getElem_cons_zero, List.getElem_cons_succ, List.setIfInBounds_toArray, List.set_cons_zero, List.set_cons_succ]
                refine wpAnyH_take (i := 10) rfl (by kernel_rfl) (by kernel_rfl) (by kernel_rfl) (fun _ _ _ h => h) (Or.inl ⟨by rfl, by intro W hSW; (try dsimp only at hSW); go_simp; try (with_reducible rfl)⟩) hHeld ?_
                try simp only [Act.put, List.getElem_toArray, List.getElem_cons_zero, List.getElem_cons_succ, List.setIfInBounds_toArray, List.set_cons_zero, List.set_cons_succ]
                refine wpAnyH_done (by kernel_rfl) ?_ _
                refine NoPanic.normal ?_
                go_wp2_with fail
                go_ret
                exact ⟨rfl, to_ HBW.out HB23.out⟩

          | true =>
            go_wp2_with (go_at_call 11; refine (HCO.out wr HBE.out).mono ?_; rintro e w6 ⟨rfl, hb6⟩; have HB6 := Lib.hid (to_ HBE.out hb6); clear hb6 x0 x1 x2 x3 x4; have HB7 := Lib.hid (to_ HB6.out (alloc_ w6 (.cells #[.slice none 0 0, .slice none 0 0] 26))); have HD7 := Lib.hid (Blk.new w6 26 #[.slice none 0 0, .slice none 0 0]); have HS7 := Lib.hid (show (w6.alloc (.cells #[.slice none 0 0, .slice none 0 0] 26)).heap.size = w6.heap.size + 1 from by simp); have HDW := Lib.hid (show W4.heap.size ≤ w6.heap.size from HB6.out.size); obtain ⟨-, -, -, x3, x4⟩ := HX.out _ HB7.out; obtain ⟨ad9, h9, HSK7⟩ := HSK.out _ HB7.out; obtain rfl := Option.some.inj h9; have HSK7 := Lib.hid HSK7; clear h9; go_wp2_with (at_builtin; go_must (refine wpList_append_slv _ rfl _ _ 23 rfl (w6.heap.size + 1) 4 iB (.bool false) 1 Try.underlying23 hiB hzB0 hzB1 hzB2 rfl _ [] rfl (World.ownsRow_nil _ _ _ _) _ _ (ks.map Value.bool) rfl HSK7.out (by intro y hy; obtain ⟨b9, -, rfl⟩ := List.mem_map.1 hy; rfl) (by simp only [List.length_nil, List.length_map, hks]; have h8 := HMX.out.1; unfold maxLen; omega) (by simp only [List.length_nil, List.length_map, hks]; have h8 := HMX.out.1; omega) (by rw [HS7.out]; exact Nat.le_refl _) ?_; intro v' w8 h2 h3; rw [List.nil_append, List.length_map, hks] at h2; have HB8 := Lib.hid (grown_none (show (w6.alloc (.cells #[.slice none 0 0, .slice none 0 0] 26)).grownBy w8 none from h3)); obtain ⟨A7, c7, rfl⟩ := own_form h2; obtain ⟨g1, rfl, hg1, hg1s, -, -, -⟩ := row_set h2 HKL.out.1 (.bool false); have HO1 := Lib.hid h2; have HG1 := Lib.hid hg1; have HD8 := Lib.hid (HD7.out.below HB8.out HD7.out.lt); have e0 : w8.cell? ⟨w6.heap.size, 0, none⟩ = some (.slice none 0 0) := HD8.out.cell 0; have f0 := HD8.out.frozen 0; clear h2 h3 hg1 hg1s x3 x4; obtain ⟨W9, hW9⟩ : ∃ x, w8.setCell ⟨w6.heap.size, 0, none⟩ (.slice (some ⟨g1, 0, none⟩) kn c7) = x := ⟨_, rfl⟩; have HD9 : Hid (Blk W9 w6.heap.size 26 #[.slice (some ⟨g1, 0, none⟩) kn c7, .slice none 0 0]) := Lib.hid (by rw [← hW9]; exact HD8.out.stored 0 _); have HO9 := Lib.hid (show W9.ownsRow (w6.heap.size + 1) 4 1 (.slice (some ⟨g1, 0, none⟩) kn c7) kn (ks.map Value.bool) from by rw [← hW9]; exact own_cell HO1.out _ _ (by show w6.heap.size < w6.heap.size + 1; omega)); have HB9 := Lib.hid (show Below W4.heap.size W4 W9 from by rw [← hW9]; exact (to_ HB7.out HB8.out).setCell (p := ⟨w6.heap.size, 0, none⟩) HDW.out _); have HSZ9 := Lib.hid (show w6.heap.size + 1 ≤ W9.heap.size from by rw [← hW9, show ∀ (X : World) (p : Addr) (v : Value), (X.setCell p v).heap.size = X.heap.size from fun X p v => by simp [World.setCell]]; have := HB8.out.size; rw [HS7.out] at this; exact this); obtain ⟨-, -, -, x3, x4⟩ := HX.out _ HB9.out; have n1 : W9.cell? ⟨w6.heap.size, 1, none⟩ = some (.slice none 0 0) := HD9.out.cell 1; obtain ⟨ad9, h9, HSC9⟩ := HSC.out _ HB9.out; obtain rfl := Option.some.inj h9; have HSC9 := Lib.hid HSC9; clear h9; go_wp2_with (at_builtin; go_must (refine wpList_append_slv _ rfl _ _ 24 rfl (w6.heap.size + 1) 3 iI (.int .i64 0) 8 Try.underlying24 hiI hzI0 hzI1 hzI2 rfl _ [] rfl (World.ownsRow_nil _ _ _ _) _ _ (cl.map (Value.int .i64)) rfl HSC9.out (by intro y hy; obtain ⟨b9, -, rfl⟩ := List.mem_map.1 hy; rfl) (by simp only [List.length_nil, List.length_map, hcs]; have h8 := HMX.out.2; unfold maxLen; omega) (by simp only [List.length_nil, List.length_map, hcs]; have h8 := HMX.out.2; omega) HSZ9.out ?_; intro v' w10 h2 h3; rw [List.nil_append, List.length_map, hcs] at h2; have HB10 := Lib.hid (grown_none (show W9.grownBy w10 none from h3)); obtain ⟨A8, c8, rfl⟩ := own_form h2; obtain ⟨g2, rfl, hg2, -, -, -, -⟩ := row_set h2 HKL.out.2 (.int .i64 0); have HO2 := Lib.hid h2; have HG2 := Lib.hid hg2; have HD10 := Lib.hid (HD9.out.below HB10.out HD9.out.lt); have e1 : w10.cell? ⟨w6.heap.size, 1, none⟩ = some (.slice none 0 0) := HD10.out.cell 1; have f1 := HD10.out.frozen 1; clear h2 h3 hg2 x3 x4 n1 hW9 e0 f0; obtain ⟨W11, hW11⟩ : ∃ x, w10.setCell ⟨w6.heap.size, 1, none⟩ (.slice (some ⟨g2, 0, none⟩) cn c8) = x := ⟨_, rfl⟩; have HD11 : Hid (Blk W11 w6.heap.size 26 #[.slice (some ⟨g1, 0, none⟩) kn c7, .slice (some ⟨g2, 0, none⟩) cn c8]) := Lib.hid (by rw [← hW11]; exact HD10.out.stored 1 _); have HO11 := Lib.hid (show W11.ownsRow (w6.heap.size + 1) 4 1 (.slice (some ⟨g1, 0, none⟩) kn c7) kn (ks.map Value.bool) from by rw [← hW11]; exact own_cell (own_on HO9.out HB10.out) _ _ (by show w6.heap.size < w6.heap.size + 1; omega)); have HI11 := Lib.hid (show W11.ownsRow (w6.heap.size + 1) 3 1 (.slice (some ⟨g2, 0, none⟩) cn c8) cn (cl.map (Value.int .i64)) from by rw [← hW11]; exact own_cell HO2.out _ _ (by show w6.heap.size < w6.heap.size + 1; omega)); have HB11 := Lib.hid (show Below W4.heap.size W4 W11 from by rw [← hW11]; exact (to_ HB9.out HB10.out).setCell (p := ⟨w6.heap.size, 1, none⟩) HDW.out _); have HNE := Lib.hid (show g1 ≠ g2 from fun e => own_types HO11.out HI11.out (by decide) (b := g2) rfl (by rw [e]; rfl)); have m0 : W11.cell? ⟨w6.heap.size, 0, none⟩ = some (.slice (some ⟨g1, 0, none⟩) kn c7) := HD11.out.cell 0; have m1 : W11.cell? ⟨w6.heap.size, 1, none⟩ = some (.slice (some ⟨g2, 0, none⟩) cn c8) := HD11.out.cell 1; obtain ⟨gz, ez, -, -, rc, rf, rs⟩ := row_set HI11.out HKL.out.2 (.int .i64 0); obtain rfl : g2 = gz := (by injection ez with ez; injection ez); rw [List.getElem?_map, List.getElem?_eq_getElem (show k < cl.length by rw [hcs]; exact HKL.out.2), Option.map_some] at rc; have HRS := Lib.hid rs; clear rs ez; obtain ⟨W12, hW12⟩ : ∃ x, W11.setCell ⟨g2, k, none⟩ (.int .i64 0) = x := ⟨_, rfl⟩; have HGN := Lib.hid (show w6.heap.size ≠ g2 from by have h7 := HG1.out; have h8 := HG2.out; omega); have HD12 : Hid (Blk W12 w6.heap.size 26 #[.slice (some ⟨g1, 0, none⟩) kn c7, .slice (some ⟨g2, 0, none⟩) cn c8]) := Lib.hid (by rw [← hW12]; exact blk_far HD11.out HGN.out); have HB12 := Lib.hid (show Below W4.heap.size W4 W12 from by rw [← hW12]; exact HB11.out.setCell (p := ⟨g2, k, none⟩) (by show W4.heap.size ≤ g2; have h6 := HDW.out; have h7 := HG1.out; have h8 := HG2.out; omega) _); have HOT := Lib.hid (own_keep1 (w' := W12) HO11.out fun gg _ _ hob => by rw [← hW12]; exact Below.heap_setCell _ ⟨g2, k, none⟩ _ gg (fun e => HNE.out (by have h9 : some g1 = some gg := hob; injection h9 with h9; have h10 : gg = g2 := e; omega))); have HQ := Lib.hid (show PnR W12 ⟨some ⟨g1, 0, none⟩, kn, c7, ks, some ⟨g2, 0, none⟩, cn, c8, cl.set k 0⟩ from ⟨wd_of_own (enc := encB) (fun _ => rfl) hks HOT.out, wd_of_own (enc := encI) (f := Value.int .i64) (fun _ => rfl) (by rw [List.length_set]; exact hcs) (by rw [← hW12, List.map_set]; exact HRS.out)⟩); have HLX := Lib.hid (HLQ.out ⟨some ⟨g1, 0, none⟩, kn, c7, ks, some ⟨g2, 0, none⟩, cn, c8, cl.set k 0⟩ (fun j => lessC_le (A := some ⟨g1, 0, none⟩) (B := some ⟨g2, 0, none⟩) (c := c7) (d := c8) (p := ⟨some adk, kn, kc, ks, some adc, cn, cc, cl⟩) (k := k) j)); have HSQ9 := Lib.hid (fun W hb hq => HSQ.out W hb ⟨some ⟨g1, 0, none⟩, kn, c7, ks, some ⟨g2, 0, none⟩, cn, c8, cl.set k 0⟩ hq); have HCQ9 := Lib.hid (fun W hb hq => HCQ.out W hb ⟨some ⟨g1, 0, none⟩, kn, c7, ks, some ⟨g2, 0, none⟩, cn, c8, cl.set k 0⟩ hq); dsimp only at HSQ9 HCQ9; obtain ⟨lq, hlq⟩ : ∃ x, startsL ⟨fA, fn, fc, fs, dA, dn, dc, ds, en, cs⟩ ⟨some ⟨g1, 0, none⟩, kn, c7, ks, some ⟨g2, 0, none⟩, cn, c8, cl.set k 0⟩ = x := ⟨_, rfl⟩; obtain ⟨zq, hzq⟩ : ∃ x, codeV ⟨fA, fn, fc, fs, dA, dn, dc, ds, en, cs⟩ ⟨some ⟨g1, 0, none⟩, kn, c7, ks, some ⟨g2, 0, none⟩, cn, c8, cl.set k 0⟩ = x := ⟨_, rfl⟩; rw [hlq] at HSQ9 HLX; rw [hzq] at HCQ9 HLX; clear hlq hzq; obtain ⟨x0, x1, x2, x3, x4⟩ := HX.out W12 HB12.out; have n0 : W12.cell? ⟨w6.heap.size, 0, none⟩ = some (.slice (some ⟨g1, 0, none⟩) kn c7) := HD12.out.cell 0; have n1 : W12.cell? ⟨w6.heap.size, 1, none⟩ = some (.slice (some ⟨g2, 0, none⟩) cn c8) := HD12.out.cell 1; go_wp2_with (go_at_call 9; refine (HST.out W12 HB12.out).mono ?_; rintro e w13 ⟨A13, c13, rfl, hil, hb13⟩; have HC13 := Lib.hid hb13; have HB13 := Lib.hid (to_ HB12.out hb13); have HI13 := Lib.hid hil; have HD13 := Lib.hid (HD12.out.below hb13 HD12.out.lt); clear hil hb13 x0 x1 x2 x3 x4 n0 n1 m0 m1 rc rf hW11 hW12 e1 f1; obtain ⟨x0, x1, x2, x3, x4⟩ := HX.out w13 HB13.out; have n0 : w13.cell? ⟨w6.heap.size, 0, none⟩ = some (.slice (some ⟨g1, 0, none⟩) kn c7) := HD13.out.cell 0; have n1 : w13.cell? ⟨w6.heap.size, 1, none⟩ = some (.slice (some ⟨g2, 0, none⟩) cn c8) := HD13.out.cell 1; go_wp2_with (go_at_call 9; refine (HSQ9.out w13 HB13.out (HQ.out.on HC13.out)).mono ?_; rintro e w14 ⟨A14, c14, rfl, hil, hb14⟩; have HB14 := Lib.hid (to_ HB13.out hb14); have HC14 := Lib.hid (to_ HC13.out hb14); have HI14 := Lib.hid hil; have HJ13 := Lib.hid (HI13.out.on hb14); have HD14 := Lib.hid (HD13.out.below hb14 HD13.out.lt); clear hil hb14 x0 x1 x2 x3 x4 n0 n1; obtain ⟨x0, x1, x2, x3, x4⟩ := HX.out w14 HB14.out)))))))
            clear x0 x1 x2 x3 x4
            go_loopw [17] (fun i9 wr => ∃ j : Nat, j ≤ fn ∧ i9 = .int .i64 (j : Int) ∧ Below w14.heap.size w14 wr) (fun i9 _ => fn - (intOf i9).toNat)
            case atStart => exact ⟨0, Nat.zero_le _, rfl, Below.refl _ _⟩
            case round =>
              obtain ⟨j, hj, rfl, hbel⟩ := hrel
              have hfn := HFN.out.1
              by_cases hlt : j < fn
              · have hjI : (j : Int) < (fn : Int) := by omega
                have hj0 : (0 : Int) ≤ (j : Int) := by omega
                obtain ⟨ad, rfl, h1, y1⟩ := (HJ13.out.on hbel).at_ hlt
                obtain ⟨ae, rfl, h2, y2⟩ := (HI14.out.on hbel).at_ hlt
                have hle := HLX.out.1 j hlt
                obtain ⟨xa, hxa⟩ : ∃ x, l1.getD j 0 = x := ⟨_, rfl⟩
                obtain ⟨xb, hxb⟩ : ∃ x, lq.getD j 0 = x := ⟨_, rfl⟩
                rw [hxa] at y1 hle
                rw [hxb] at y2 hle
                have hng : ¬ xa < xb := by omega
                have HBE := Lib.hid hbel
                clear hxa hxb hle hbel h1 h2
                go_wp2_with fail
                go_quiet (fail)
                go_wp2_with fail
                go_roundw
                case rel => exact ⟨j + 1, by omega, by go_num, below_drewN HBE.out _⟩
                case measure => simp [intOf]; omega
              · obtain rfl : j = fn := by omega
                have HBE := Lib.hid (to_ HB14.out hbel)
                have HCE := Lib.hid (to_ HC14.out hbel)
                have HD15 := Lib.hid (HD14.out.below hbel HD14.out.lt)
                have hle := HLX.out.2
                clear hbel hlt
                go_wp2_with fail
                obtain ⟨x0, x1, x2, x3, x4⟩ := HX.out wr HBE.out
                refine wp_region_noPanic ?_
                refine wp_region_held_drew (S := fun W => W.cell? ⟨w2.heap.size, 0, none⟩ = some (.slice fA j fc) ∧ W.cell? ⟨w2.heap.size, 1, none⟩ = some (.slice dA dn dc) ∧ W.cell? ⟨w2.heap.size, 2, none⟩ = some (.int .i64 en) ∧ W.cell? ⟨w.heap.size, 0, none⟩ = some (.slice (some adk) kn kc) ∧ W.cell? ⟨w.heap.size, 1, none⟩ = some (.slice (some adc) cn cc) ∧ W.cell? ⟨w6.heap.size, 0, none⟩ = some (.slice (some ⟨g1, 0, none⟩) kn c7) ∧ W.cell? ⟨w6.heap.size, 1, none⟩ = some (.slice (some ⟨g2, 0, none⟩) cn c8)) (by kernel_rfl) (⟨x0, x1, x2, x3, x4, HD15.out.cell 0, HD15.out.cell 1⟩) (fun hHeld => ?_)
                clear x0 x1 x2 x3 x4
                refine wpAnyH_take (i := 0) rfl (by kernel_rfl) (by kernel_rfl) (by kernel_rfl) (fun _ _ _ h => h) (Or.inl ⟨by rfl, by intro W hSW; (try dsimp only at hSW); go_simp; try (with_reducible rfl)⟩) hHeld ?_
                try simp only [Act.put, List.getElem_toArray, List.getElem_cons_zero, List.getElem_cons_succ, List.setIfInBounds_toArray, List.set_cons_zero, List.set_cons_succ]
                refine wpAnyH_take (i := 1) rfl (by kernel_rfl) (by kernel_rfl) (by kernel_rfl) (fun _ _ _ h => h) (Or.inl ⟨by rfl, by intro W hSW; (try dsimp only at hSW); go_simp; try (with_reducible rfl)⟩) hHeld ?_
                try simp only [Act.put, List.getElem_toArray, List.getElem_cons_zero, List.getElem_cons_succ, List.setIfInBounds_toArray, List.set_cons_zero, List.set_cons_succ]
                refine wpAnyH_take (i := 3) rfl (by kernel_rfl) (by kernel_rfl) (by kernel_rfl) (fun _ _ _ h => h) (Or.inl ⟨by rfl, by intro W hSW; (try dsimp only at hSW); go_simp; try (with_reducible rfl)⟩) hHeld ?_
                try simp only [Act.put, List.getElem_toArray, List.getElem_cons_zero, List.getElem_cons_succ, List.setIfInBounds_toArray, List.set_cons_zero, List.set_cons_succ]
                refine wpAnyH_take (i := 4) rfl (by kernel_rfl) (by kernel_rfl) (by kernel_rfl) (fun _ _ _ h => h) (Or.inl ⟨by rfl, by intro W hSW; (try dsimp only at hSW); go_simp; try (with_reducible rfl)⟩) hHeld ?_
                try simp only [Act.put, List.getElem_toArray, List.getElem_cons_zero, List.getElem_cons_succ, List.setIfInBounds_toArray, List.set_cons_zero, List.set_cons_succ]
                refine wpAnyH_ready (rs := [2]) (by kernel_rfl) (by simp) ?_
                refine AllReadyH.cons rfl (fun K hK => ?_) AllReadyH.nil
                go_simp
                refine (HCQ9.out _ HBE.out.drew (HQ.out.on HCE.out.drew)).mono ?_; rintro e u1 ⟨rfl, hb⟩; have HB21 := Lib.hid (to_ HBE.out.drew hb); have HU := Lib.hid hb; clear hb
                try go_wp2_with fail
                refine hK.out _ _ (⟨cell_on hHeld.1 HU.out, cell_on hHeld.2.1 HU.out, cell_on hHeld.2.2.1 HU.out, cell_on hHeld.2.2.2.1 HU.out, cell_on hHeld.2.2.2.2.1 HU.out, cell_on hHeld.2.2.2.2.2.1 HU.out, cell_on hHeld.2.2.2.2.2.2 HU.out⟩) ?_
                clear hK K hHeld
                intro hHeld
                try simp only [Act.put, List.getElem_toArray, List.getElem_cons_zero, List.getElem_cons_succ, List.setIfInBounds_toArray, List.set_cons_zero, List.set_cons_succ]
                refine wpAnyH_ready (rs := [5]) (by kernel_rfl) (by simp) ?_
                refine AllReadyH.cons rfl (fun K hK => ?_) AllReadyH.nil
                go_simp
                refine (HCO.out _ HB21.out).mono ?_; rintro e u2 ⟨rfl, hb⟩; have HB22 := Lib.hid (to_ HB21.out hb); have HU := Lib.hid hb; clear hb
                try go_wp2_with fail
                refine hK.out _ _ (⟨cell_on hHeld.1 HU.out, cell_on hHeld.2.1 HU.out, cell_on hHeld.2.2.1 HU.out, cell_on hHeld.2.2.2.1 HU.out, cell_on hHeld.2.2.2.2.1 HU.out, cell_on hHeld.2.2.2.2.2.1 HU.out, cell_on hHeld.2.2.2.2.2.2 HU.out⟩) ?_
                clear hK K hHeld
                intro hHeld
                try simp only [Act.put, List.getElem_toArray, List.getElem_cons_zero, List.getElem_cons_succ, List.setIfInBounds_toArray, List.set_cons_zero, List.set_cons_succ]
                refine wpAnyH_take (i := 6) rfl (by kernel_rfl) (by kernel_rfl) (by kernel_rfl) (fun _ _ _ h => h) (Or.inl ⟨by rfl, by intro W hSW; (try dsimp only at hSW); go_simp; try (with_reducible rfl)⟩) hHeld ?_
                try simp only [Act.put, List.getElem_toArray, List.getElem_cons_zero, List.getElem_cons_succ, List.setIfInBounds_toArray, List.set_cons_zero, List.set_cons_succ]
                refine wpAnyH_take (i := 7) rfl (by kernel_rfl) (by kernel_rfl) (by kernel_rfl) (fun _ _ _ h => h) (Or.inl ⟨by rfl, by intro W hSW; (try dsimp only at hSW); go_simp; try (with_reducible rfl)⟩) hHeld ?_
                try simp only [Act.put, List.getElem_toArray, List.getElem_cons_zero, List.getElem_cons_succ, List.setIfInBounds_toArray, List.set_cons_zero, List.set_cons_succ]
                refine wpAnyH_ready (rs := [8]) (by kernel_rfl) (by simp) ?_
                refine AllReadyH.cons rfl (fun K hK => ?_) AllReadyH.nil
                go_simp
                refine (known29_any _).mono ?_; rintro e u3 ⟨rfl, hb⟩; have HB23 := Lib.hid (to_ HB22.out hb); have HU := Lib.hid hb; clear hb
                try go_wp2_with fail
                refine hK.out _ _ (⟨cell_on hHeld.1 HU.out, cell_on hHeld.2.1 HU.out, cell_on hHeld.2.2.1 HU.out, cell_on hHeld.2.2.2.1 HU.out, cell_on hHeld.2.2.2.2.1 HU.out, cell_on hHeld.2.2.2.2.2.1 HU.out, cell_on hHeld.2.2.2.2.2.2 HU.out⟩) ?_
                clear hK K hHeld
                intro hHeld
                try simp only [Act.put, List.getElem_toArray, List.getElem_cons_zero, List.getElem_cons_succ, List.setIfInBounds_toArray, List.set_cons_zero, List.set_cons_succ]
                refine wpAnyH_take (i := 9) rfl (by kernel_rfl) (by kernel_rfl) (by kernel_rfl) (fun _ _ _ h => h) (Or.inl ⟨by rfl, by intro W hSW; (try dsimp only at hSW); go_simp; try (with_reducible rfl)⟩) hHeld ?_
                try simp only [Act.put, List.getElem_toArray, List.getElem_cons_zero, List.getElem_cons_succ, List.setIfInBounds_toArray, List.set_cons_zero, List.set_cons_succ]
                refine wpAnyH_take (i := 10) rfl (by kernel_rfl) (by kernel_rfl) (by kernel_rfl) (fun _ _ _ h => h) (Or.inl ⟨by rfl, by intro W hSW; (try dsimp only at hSW); go_simp; try (with_reducible rfl)⟩) hHeld ?_
                try simp only [Act.put, List.getElem_toArray, List.getElem_cons_zero, List.getElem_cons_succ, List.setIfInBounds_toArray, List.set_cons_zero, List.set_cons_succ]
                refine wpAnyH_done (by kernel_rfl) ?_ _
                refine NoPanic.normal ?_
                go_wp2_with fail
                go_ret
                exact ⟨rfl, to_ HBW.out HB23.out⟩

end Go.Proofs.Ytbcabomblfehlab.Bo
