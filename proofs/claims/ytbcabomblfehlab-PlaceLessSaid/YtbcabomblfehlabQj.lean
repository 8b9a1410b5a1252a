/-
  THE LINK: what the document's calls of the layers below answer, of files that are read whole: Bx of XQi.
-/
import Derived.Test.YtbcabomblfehlabQi
import Derived.Test.YtbcabomblfehlabPe
import Derived.Test.YtbcabomblfehlabPf
import Derived.Test.YtbcabomblfehlabPg
import Derived.Test.YtbcabomblfehlabPh
import Derived.Test.YtbcabomblfehlabPi
namespace Go.Proofs.Ytbcabomblfehlab.Bo
open Go.RowKit Go.Maps
open Mem Rf
set_option linter.unusedSimpArgs false
set_option linter.unusedVariables false

/-- A function that is read whole. -/
structure FnOk (w : World) (F : Fc) (x : By.Fn) : Prop where
  fw : By.FnW w F.kinds.1 F.kinds.2.1 F.kinds.2.2 F.lines.1 F.lines.2.1 F.lines.2.2 F.code.1 F.code.2.1 F.code.2.2 F.rel.1 F.rel.2.1 F.rel.2.2 x
  hk : x.k = F.cl
  hpd : x.pd = F.pad
  hns : x.ns = F.no
  hf : x.f = F.f
  ht : x.t = F.t
  few : F.kinds.2.1 ≤ 100 ∧ F.lines.2.1 ≤ 100 ∧ F.code.2.1 ≤ 100 ∧ F.rel.2.1 ≤ 100
  bd : (∀ z ∈ x.ks, -9223372036854775808 ≤ z ∧ z ≤ 9223372036854775807) ∧ ∀ k, k < x.cs.length → -9223372036854775808 ≤ (By.inAt x.cs k).1 ∧ (By.inAt x.cs k).1 ≤ 9223372036854775807
/-- Data that are read whole. -/
structure DtOk (w : World) (D : Dc) (ws : List Int) (rs : List By.Rl) : Prop where
  hw : By.IW w (.slice D.words.1 D.words.2.1 D.words.2.2) ws
  hl : ws.length = D.words.2.1
  hr : By.RlL w D.rel.1 D.rel.2.1 D.rel.2.2 rs
  few : D.words.2.1 ≤ 100 ∧ D.rel.2.1 ≤ 100
  bd : -9223372036854775808 ≤ D.kd ∧ D.kd ≤ 9223372036854775807
theorem FnOk.on {w w' : World} {F : Fc} {x : By.Fn} (h : FnOk w F x) (hb : Below w.heap.size w w') : FnOk w' F x := ⟨h.fw.on hb, h.hk, h.hpd, h.hns, h.hf, h.ht, h.few, h.bd⟩
theorem DtOk.on {w w' : World} {D : Dc} {ws : List Int} {rs : List By.Rl} (h : DtOk w D ws rs) (hb : Below w.heap.size w w') : DtOk w' D ws rs := ⟨h.hw.on hb, h.hl, h.hr.on hb, h.few, h.bd⟩

def neV (s : ByteArray) : Int := Nam.checkV s.data.toList
noncomputable def vfV (x : By.Fn) (l : List Sy) : Int := (By.veF x l).1
def rfV (F : Fc) (x : By.Fn) : Int := By.ckV F.f F.t (By.pnT (By.pdO F.code.2.1 (fun i => (By.inAt x.cs i).1) fun i => (By.inAt x.cs i).2.2.2.2) F.code.2.1)
def deV (D : Dc) (ws : List Int) (rs : List By.Rl) (o : Oj) : Int := By.chkD D.kd ws o.n rs o.l

theorem name_is (s : ByteArray) (hs : s.size ≤ 1000) (w : World) : Calls Try.prog 63 #[.string s] w fun e w' => e = .returned (.int .i64 (neV s)) ∧ Below w.heap.size w w' :=
  (Nq.nmCheck_any s w hs).mono fun e w' h => by
    obtain ⟨h1, n, rfl⟩ := h
    exact ⟨h1, below_drewN (Below.refl _ _) n⟩
theorem is_is (n : Int) (w : World) : Calls Try.prog 64 #[.int .i64 n] w fun e w' => e = .returned (.bool (Si.isC n)) ∧ Below w.heap.size w w' :=
  (Si.ris_any n w).mono fun e w' h => ⟨h.1, by rw [← h.2]; exact Below.refl _ _⟩
theorem text_is (n : Int) (hn : -9223372036854775808 ≤ n ∧ n ≤ 9223372036854775807) (w : World) : Calls Try.prog 65 #[.int .i64 n] w fun e w' => (∃ t, e = .returned (.string t) ∧ (ByteArray.toList t).isEmpty = !Si.kindB n) ∧ Below w.heap.size w w' :=
  (Si.rtext_any n hn.1 hn.2 w).mono fun e w' h => ⟨⟨_, h.1, By.text_kind n⟩, h.2⟩
theorem fn_is {w : World} {F : Fc} {x : By.Fn} (h : FnOk w F x) {A : Option Addr} {n c : Nat} {l : List Sy} (hs : SyL w A n c l) (hb : ∀ k, -9223372036854775808 ≤ (syAt l k).2.2.2.1 ∧ (syAt l k).2.2.2.1 ≤ 9223372036854775807) :
    Calls Try.prog 68 #[.agg (encFc F).toArray, .slice A n c] w fun e w' => (∃ y, e = .returned (.tuple #[.int .i64 (vfV x l), .int .i64 y])) ∧ Below w.heap.size w w' := by
  have h9 := By.dch_any w _ _ _ _ _ _ _ _ _ _ _ _ x h.fw (by have := h.few; omega) A n c l hs hb h.bd
  rw [h.hk, h.hpd, h.hns, h.hf, h.ht] at h9
  exact h9.mono fun e w' hh => ⟨⟨_, hh.1⟩, hh.2⟩
theorem sym_is {w : World} {F : Fc} {x : By.Fn} (h : FnOk w F x) (i : Int) :
    Calls Try.prog 54 #[.agg (encFc F).toArray, .int .i64 i] w fun e w' => e = .returned (.int .i64 (By.veS x i)) ∧ Below w.heap.size w w' := by
  have h9 := By.dsym_any w _ _ _ _ _ _ _ _ _ _ _ _ x h.fw (by have := h.few; omega) i
  rw [h.hk, h.hpd, h.hns, h.hf, h.ht] at h9
  exact h9
theorem cw_of {w : World} {A : Option Addr} {n c : Nat} {cs : List By.In5} (h : By.InL w A n c cs) : By.CW w A n c (fun i => (By.inAt cs i).1) fun i => (By.inAt cs i).2.2.2.2 := by
  refine ⟨h.2.1, h.2.2.1, fun i hi => ?_⟩
  have hl : i < cs.length := by rw [h.1]; exact hi
  obtain ⟨ad, e, hb, hc⟩ := h.2.2.2.2 i (By.inAt cs i) (by unfold By.inAt; rw [List.getD_eq_getElem?_getD, List.getElem?_eq_getElem hl]; rfl)
  exact ⟨ad, _, _, _, e, hb, hc⟩
theorem rng_is {w : World} {F : Fc} {x : By.Fn} (h : FnOk w F x) :
    Calls Try.prog 69 #[.agg (encFc F).toArray] w fun e w' => e = .returned (.int .i64 (rfV F x)) ∧ Below w.heap.size w w' :=
  By.rngCheck_any w _ _ _ _ _ _ F.f F.t _ _ _ _ _ _ (cw_of h.fw.hc) (by have := h.few; omega) rfl
theorem dat_is {w : World} {D : Dc} {ws : List Int} {rs : List By.Rl} (h : DtOk w D ws rs) {o : Oj} (hs : SyL w o.A o.n o.c o.l) :
    Calls Try.prog 67 #[.agg (encDc D).toArray, .slice o.A o.n o.c] w fun e w' => e = .returned (.int .i64 (deV D ws rs o)) ∧ Below w.heap.size w w' :=
  By.rcheckD_any w D.kd _ _ _ _ _ _ _ _ _ ws rs o.l h.bd.1 h.bd.2 h.hw h.hl (by have := h.few; omega) h.hr (by have := h.few; omega) hs
theorem il_of {w : World} {A : Option Addr} {c : Nat} {l : List Int} {n : Nat} (h : By.IW w (.slice A n c) l) (hl : l.length = n) : IL w A n c l := by
  rcases h.inv with ⟨rfl, h1, rfl, _⟩ | ⟨ad, rfl, h1, h2, h3, hr⟩
  · subst h1
    have : l = [] := List.eq_nil_of_length_eq_zero hl
    subst this
    exact Wd.nil
  · refine ⟨hl, by omega, ⟨by assumption, ⟨(fun e => by cases e), fun i x hi => ?_⟩⟩⟩
    have hil : i < n := by have := (List.getElem?_eq_some_iff.1 hi).1; omega
    obtain ⟨ad', e, hb, hc⟩ := By.iw_cell h hl hil
    refine ⟨ad', e, hb, fun j u hu => ?_⟩
    obtain rfl : j = 0 := by have := (List.getElem?_eq_some_iff.1 hu).1; simpa [encI] using this
    rw [Nat.mul_one, show (ad'.add i).add 0 = ad'.add i from by unfold Addr.add; simp, hc, ← hu]
    have : By.el l i = x := by unfold By.el; rw [List.getD_eq_getElem?_getD, hi]; rfl
    rw [this]; rfl
theorem refs_is {w : World} {D : Dc} {ws : List Int} {rs : List By.Rl} (h : DtOk w D ws rs) :
    Calls Try.prog 57 #[.agg (encDc D).toArray] w fun e w' => ∃ Ai ci, e = .returned (.slice Ai (By.rfL rs D.rel.2.1 D.words.2.1).length ci) ∧ IL w' Ai (By.rfL rs D.rel.2.1 D.words.2.1).length ci (By.rfL rs D.rel.2.1 D.words.2.1) ∧ Below w.heap.size w w' := by
  have hl : (By.rfL rs D.rel.2.1 D.words.2.1).length = D.words.2.1 := by simp [By.rfL]
  rw [hl]
  exact (By.rrefs_any w D.kd _ _ _ _ _ _ rs h.hr (by have := h.few; omega) (by have := h.few; omega)).mono fun e w' hh => by
    obtain ⟨A, c, h1, h2, h3⟩ := hh
    exact ⟨A, c, h1, il_of h2 hl, h3⟩

theorem sym_ok {x : By.Fn} {l : List Sy} (h : vfV x l = 0) {j : Nat} (hj : j < x.cs.length) : By.veS x j < 0 ∨ (0 ≤ By.veS x j ∧ (By.veS x j).toNat < l.length) := by
  have hi : By.veI x l j = 0 := by
    unfold vfV By.veF at h
    by_cases hc : By.chF x = 0
    · rw [if_pos hc] at h
      by_cases h0 : By.veI x l j = 0
      · exact h0
      · exfalso
        have key : ∀ n, (By.veL x l n).1 = 0 → ∀ m, m < n → By.veI x l m = 0 := by
          intro n
          induction n with
          | zero => intro _ m hm; omega
          | succ n ih =>
            intro hn m hm
            have h1 : (By.veL x l n).1 = 0 := by
              by_cases h2 : (By.veL x l n).1 = 0
              · exact h2
              · rw [By.veL_fix h2 (n + 1) (by omega)] at hn; exact absurd hn h2
            rcases Nat.lt_succ_iff_lt_or_eq.1 hm with h2 | h2
            · exact ih h1 m h2
            · subst h2
              by_cases h3 : By.veI x l m = 0
              · exact h3
              · have h4 := (By.veL_next h1).2 h3 (m + 1) (Nat.le_refl _)
                rw [h4] at hn; exact absurd hn h3
        exact h0 (key _ h j hj)
    · rw [if_neg hc] at h; exact absurd h hc
  unfold By.veI at hi
  rw [if_neg (by unfold By.inL; simp; omega)] at hi
  unfold By.veS
  cases hr : By.refA x.rs j with
  | none => left; decide
  | some r =>
    right
    dsimp only
    by_cases hq : (By.ndV (By.inAt x.cs ((j : Int)).toNat).1 ≠ 0 ∧ By.symA x.rs l j = none) ∨ ((By.refA x.rs j).isSome = true ∧ By.ndV (By.inAt x.cs ((j : Int)).toNat).1 = 0)
    · rw [if_pos hq] at hi; exact absurd hi (by decide)
    · have h1 : By.ndV (By.inAt x.cs ((j : Int)).toNat).1 ≠ 0 := fun e => hq (.inr ⟨by rw [hr]; rfl, e⟩)
      have h2 : By.symA x.rs l j ≠ none := fun e => hq (.inl ⟨h1, e⟩)
      unfold By.symA at h2
      rw [hr] at h2
      dsimp only at h2
      by_cases h3 : By.inL r.2.1 l.length = true
      · unfold By.inL at h3
        have := of_decide_eq_true h3
        omega
      · rw [if_neg h3] at h2; exact absurd rfl h2
theorem firF_zero {f : Nat → Int} : ∀ (m k : Nat), By.firF f k m = 0 → ∀ j, k ≤ j → j < k + m → f j = 0
  | 0, k, _, j, h1, h2 => by omega
  | m + 1, k, h, j, h1, h2 => by
    unfold By.firF at h
    by_cases h0 : f k = 0
    · rw [if_neg (by simpa using h0)] at h
      by_cases he : j = k
      · subst he; exact h0
      · exact firF_zero m (k + 1) h j (by omega) (by omega)
    · rw [if_pos h0] at h; exact absurd h h0
theorem ref_ok {D : Dc} {ws : List Int} {rs : List By.Rl} {o : Oj} (hr : rs.length = D.rel.2.1) (h : deV D ws rs o = 0) (N : Nat) : ∀ z ∈ By.rfL rs D.rel.2.1 N, z < 0 ∨ (0 ≤ z ∧ z.toNat < o.n) := by
  intro z hz
  unfold By.rfL at hz
  obtain ⟨p, hp, rfl⟩ := List.mem_map.1 hz
  unfold By.rfV
  rcases By.fmT_min rs p D.rel.2.1 with ⟨h1, _⟩ | ⟨i, h1, h2, h3, _⟩
  · rw [if_pos h1]; left; decide
  · rw [if_neg (by rw [h2]; omega), h2, Int.toNat_natCast]
    right
    unfold deV By.chkD at h
    have hf : By.firF (By.fE D.kd ws.length o.n rs o.l) 0 rs.length = 0 := by
      split at h
      · exact absurd h (by decide)
      · split at h
        · exact absurd h (by decide)
        · split at h
          · exact absurd h (by decide)
          · exact h
    have hE := firF_zero _ _ hf i (Nat.zero_le _) (by omega)
    unfold By.fE at hE
    have h4 : By.c4V o.n rs i = false := by
      cases hc : By.c4V o.n rs i with
      | false => rfl
      | true => rw [hc] at hE; simp at hE
    unfold By.c4V at h4
    simp at h4
    omega

/-- Files that are read whole. -/
structure OjsW (w : World) (A : Option Addr) (n c : Nat) (os : List Oj) (xs : Nat → Nat → By.Fn) (ws : Nat → Nat → List Int) (rs : Nat → Nat → List By.Rl) : Prop where
  mem : OjsL w A n c os
  few : n ≤ 9 ∧ ∀ i, i < n → (ojAt os i).n ≤ 60 ∧ (ojAt os i).fn ≤ 20 ∧ (ojAt os i).dn ≤ 20
  names : ∀ i, i < n → ∀ k, k < (ojAt os i).n → (syAt (ojAt os i).l k).1.size ≤ 300
  kinds : ∀ i, i < n → ∀ k, -9223372036854775808 ≤ (syAt (ojAt os i).l k).2.2.2.1 ∧ (syAt (ojAt os i).l k).2.2.2.1 ≤ 9223372036854775807
  fns : ∀ i, i < n → ∀ k, k < (ojAt os i).fn → FnOk w (fcAt (ojAt os i).fl k) (xs i k)
  dats : ∀ i, i < n → ∀ k, k < (ojAt os i).dn → DtOk w (dcAt (ojAt os i).dl k) (ws i k) (rs i k)
section
variable {w w' : World} {A : Option Addr} {n c : Nat} {os : List Oj} {xs : Nat → Nat → By.Fn} {ws : Nat → Nat → List Int} {rs : Nat → Nat → List By.Rl}
theorem OjsW.on (h : OjsW w A n c os xs ws rs) (hb : Below w.heap.size w w') : OjsW w' A n c os xs ws rs := ⟨h.mem.on hb, h.few, h.names, h.kinds, fun i hi k hk => (h.fns i hi k hk).on hb, fun i hi k hk => (h.dats i hi k hk).on hb⟩
noncomputable def vfO (os : List Oj) (xs : Nat → Nat → By.Fn) (i k : Nat) : Int := vfV (xs i k) (ojAt os i).l
def rfO (os : List Oj) (xs : Nat → Nat → By.Fn) (i k : Nat) : Int := rfV (fcAt (ojAt os i).fl k) (xs i k)
def deO (os : List Oj) (ws : Nat → Nat → List Int) (rs : Nat → Nat → List By.Rl) (i k : Nat) : Int := deV (dcAt (ojAt os i).dl k) (ws i k) (rs i k) (ojAt os i)
def svO (xs : Nat → Nat → By.Fn) (i k j : Nat) : Int := By.veS (xs i k) j
def dvO (os : List Oj) (rs : Nat → Nat → List By.Rl) (i k : Nat) : List Int := By.rfL (rs i k) (dcAt (ojAt os i).dl k).rel.2.1 (dcAt (ojAt os i).dl k).words.2.1
theorem OjsW.bx (h : OjsW w A n c os xs ws rs) : Bx w A n c os neV Si.isC Si.kindB (vfO os xs) (rfO os xs) (deO os ws rs) (svO xs) (dvO os rs) where
  mem := h.mem
  few := h.few
  obj := fun i hi => {
    mem := h.mem.each i hi
    few := by have := h.few.2 i hi; omega
    name := fun W hW k hk => name_is _ (by have := h.names i hi k hk; omega) W
    is := fun W hW x => is_is x W
    text := fun W hW k hk => text_is _ (h.kinds i hi k) W
    fn := fun W hW j hj => fn_is ((h.fns i hi j hj).on hW) ((h.mem.each i hi).on hW).sy (h.kinds i hi)
    rng := fun W hW j hj => rng_is ((h.fns i hi j hj).on hW)
    dat := fun W hW j hj => dat_is ((h.dats i hi j hj).on hW) ((h.mem.each i hi).on hW).sy }
  code := fun i hi k hk => by have := (h.fns i hi k hk).few; omega
  words := fun i hi k hk => by unfold dvO By.rfL; rw [List.length_map, List.length_range]; have := (h.dats i hi k hk).few; omega
  sym := fun W hW i hi k hk j => sym_is ((h.fns i hi k hk).on hW) j
  refs := fun W hW i hi k hk => refs_is ((h.dats i hi k hk).on hW)
  svok := fun i hi k hk hv j hj => by
    have h9 := sym_ok (x := xs i k) (l := (ojAt os i).l) hv (j := j) (by rw [(h.fns i hi k hk).fw.hc.1]; exact hj)
    rw [(h.mem.each i hi).sy.1] at h9
    exact h9
  dvok := fun i hi k hk hv => ref_ok (h.dats i hi k hk).hr.1 hv _
/-- BIND, of files that are read whole. -/
theorem bind_doc (h : OjsW w A n c os xs ws rs) (nm : ByteArray) :
    Calls Try.prog 21 #[.slice A n c, .string nm] w (BAns w os n nm (svO xs) (dvO os rs) (bindV os n (ckO os neV Si.isC Si.kindB (vfO os xs) (rfO os xs) (deO os ws rs)) nm)) := bind_walk w A n c os _ _ _ _ _ _ _ _ h.bx nm
end
end Go.Proofs.Ytbcabomblfehlab.Bo
