/-
  THE PROGRAM that the document's Bind makes, to be read.
-/
import Derived.Test.YtbcabomblfehlabTb
namespace Go.Proofs.Ytbcabomblfehlab.Bo
open Go.RowKit Go.Maps
open Mem Rf
set_option linter.unusedSimpArgs false
set_option linter.unusedVariables false

theorem bind_none {os : List Oj} {n : Nat} {ck : Nat → Int × Int} {nm : ByteArray} (h : bindV os n ck nm = none) : ¬ (n = 0 ∨ 6 < n) ∧ (∀ i, i < n → (ck i).1 = 0) ∧ (checkV (symsO os)).1 = 0 ∧ entB (symsO os) nm = true := by
  unfold bindV at h
  split at h
  · cases h
  · rename_i h1
    split at h
    · cases h
    · rename_i h2
      split at h
      · cases h
      · rename_i h3
        split at h
        · rename_i h4
          refine ⟨h1, fun i hi => ?_, by simpa using h3, h4⟩
          have := List.find?_eq_none.1 h2 i (List.mem_range.2 hi)
          simpa using this
        · cases h
theorem bind_some {os : List Oj} {n : Nat} {ck : Nat → Int × Int} {nm : ByteArray} {r : Int × Int × Int} (h : bindV os n ck nm = some r) : r.1 ≠ 0 := by
  unfold bindV at h
  split at h
  · injection h with h; subst h; decide
  · split at h
    · rename_i i h2
      injection h with h; subst h
      have := List.find?_some h2
      simpa using this
    · split at h
      · rename_i h3
        injection h with h; subst h; exact h3
      · split at h
        · cases h
        · injection h with h; subst h; decide

theorem fpos_in {os : List Oj} {n : Nat} {p : Nat × Nat} (h : p ∈ fpos os n 0) : p.1 < n ∧ p.2 < (ojAt os p.1).fn := by
  unfold fpos at h
  simp only [List.range_zero, List.map_nil, List.append_nil, List.mem_flatMap, List.mem_range, List.mem_map] at h
  obtain ⟨a, ha, b, hb, rfl⟩ := h
  exact ⟨ha, hb⟩
theorem dpos_in {os : List Oj} {n : Nat} {p : Nat × Nat} (h : p ∈ dpos os n 0) : p.1 < n ∧ p.2 < (ojAt os p.1).dn := by
  unfold dpos at h
  simp only [List.range_zero, List.map_nil, List.append_nil, List.mem_flatMap, List.mem_range, List.mem_map] at h
  obtain ⟨a, ha, b, hb, rfl⟩ := h
  exact ⟨ha, hb⟩
def poAt (ps : List (Nat × Nat)) (a : Nat) : Nat × Nat := ps.getD a (0, 0)
theorem poAt_mem {ps : List (Nat × Nat)} {a : Nat} (h : a < ps.length) : poAt ps a ∈ ps := by
  unfold poAt; rw [List.getD_eq_getElem?_getD, List.getElem?_eq_getElem h]; exact List.getElem_mem h
theorem map_at {α β γ : Type} {f : α → γ} {g : β → γ} {l : List α} {m : List β} (h : l.map f = m.map g) {a : Nat} (ha : a < l.length) (d : α) (e : β) : f (l.getD a d) = g (m.getD a e) := by
  have hl : l.length = m.length := by have := congrArg List.length h; simpa using this
  have h2 : (l.map f)[a]? = (m.map g)[a]? := by rw [h]
  rw [List.getElem?_map, List.getElem?_map, List.getElem?_eq_getElem ha, List.getElem?_eq_getElem (by omega)] at h2
  rw [List.getD_eq_getElem?_getD, List.getD_eq_getElem?_getD, List.getElem?_eq_getElem ha, List.getElem?_eq_getElem (by omega)]
  simpa using h2
theorem FOk.at_ {os : List Oj} {sv : Nat → Nat → Nat → Int} {ps : List (Nat × Nat)} {fs : List Gf} (h : FOk os sv ps fs) {a : Nat} (ha : a < fs.length) :
    (gfAt fs a).file = (poAt ps a).1 ∧ (gfAt fs a).item = (poAt ps a).2 ∧ (gfAt fs a).F = fcAt (ojAt os (poAt ps a).1).fl (poAt ps a).2 ∧ (gfAt fs a).refs = rfF os sv (poAt ps a).1 (poAt ps a).2 := by
  have := map_at h ha gf0 (0, 0)
  unfold tpF at this
  simp only [Prod.mk.injEq] at this
  exact ⟨this.1, this.2.1, this.2.2.2.1, this.2.2.2.2⟩
theorem DOk.at_ {os : List Oj} {dv : Nat → Nat → List Int} {ps : List (Nat × Nat)} {ds : List Gd} (h : DOk os dv ps ds) {a : Nat} (ha : a < ds.length) :
    (gdAt ds a).D = dcAt (ojAt os (poAt ps a).1).dl (poAt ps a).2 ∧ (gdAt ds a).refs = rfD os dv (poAt ps a).1 (poAt ps a).2 := by
  have := map_at h ha gd0 (0, 0)
  unfold tpD at this
  simp only [Prod.mk.injEq] at this
  exact ⟨this.2.2.2.1, this.2.2.2.2⟩
theorem rfF_len (os : List Oj) (sv : Nat → Nat → Nat → Int) (i k : Nat) : (rfF os sv i k).length = (fcAt (ojAt os i).fl k).code.2.1 := by unfold rfF bV; rw [List.length_map, List.length_map, List.length_range]
theorem rfD_len (os : List Oj) (rs : Nat → Nat → List By.Rl) (i k : Nat) : (rfD os (dvO os rs) i k).length = (dcAt (ojAt os i).dl k).words.2.1 := by unfold rfD bV dvO By.rfL; rw [List.length_map, List.length_map, List.length_range]

/-- A program, as Bind leaves it: its rows are its own, its code is to be read. -/
structure PgL (w : World) (B : Nat) (P : Pgm) : Prop where
  own : PgO B w P.fs P.ds (.slice P.fA P.fn P.fc) (.slice P.dA P.dn P.dc)
  fr : Wd 13 encGf w w.heap.size P.fA P.fn P.fc P.fs
  dr : Wd 7 encGd w w.heap.size P.dA P.dn P.dc P.ds
  code : ∀ a, a < P.fn → By.InL w (gfAt P.fs a).F.code.1 (gfAt P.fs a).F.code.2.1 (gfAt P.fs a).F.code.2.2 (P.cs a)
  bd : ∀ a, a < P.fn → ∀ k, -9223372036854775808 ≤ (By.inAt (P.cs a) k).1 ∧ (By.inAt (P.cs a) k).1 ≤ 9223372036854775807
  lenF : ∀ a, a < P.fn → (gfAt P.fs a).refs.length = (gfAt P.fs a).F.code.2.1
  lenD : ∀ a, a < P.dn → (gdAt P.ds a).refs.length = (gdAt P.ds a).D.words.2.1
  src : ∀ a, a < P.fn → ∃ (w0 : World) (x : By.Fn), FnOk w0 (gfAt P.fs a).F x
theorem own_slV {w : World} {B : Nat} {R : Sl3} {L : List Int} (h : w.ownsRow B 3 1 (slV R) L.length (L.flatMap encI)) : R.2.1 = L.length ∧ IL w R.1 R.2.1 R.2.2 L := by
  obtain ⟨A, c, e, hi⟩ := own_il h
  obtain ⟨r1, r2, r3⟩ := R
  unfold slV at e
  injection e with e1 e2 e3
  dsimp only at e1 e2 e3 ⊢
  subst e1 e2 e3
  exact ⟨rfl, hi⟩
theorem PgL.rd {w : World} {B : Nat} {P : Pgm} (h : PgL w B P) (hf : (∀ i, i < P.fn → fewG (gfAt P.fs i)) ∧ (∀ i, i < P.dn → fewD (gdAt P.ds i)) ∧ P.fn ≤ 24 ∧ P.dn ≤ 24) : PgR w P where
  fr := h.fr
  dr := h.dr
  fns := fun i hi => by
    obtain ⟨e1, e2⟩ := own_slV (h.own.fref (gfAt P.fs i) (List.mem_of_getElem? (gfAt_some (by rw [h.fr.1]; exact hi))))
    exact ⟨h.code i hi, e2, ⟨(hf.1 i hi).1, (hf.1 i hi).2.1⟩, h.bd i hi⟩
  dats := fun i hi => by
    obtain ⟨e1, e2⟩ := own_slV (h.own.dref (gdAt P.ds i) (List.mem_of_getElem? (gdAt_some (by rw [h.dr.1]; exact hi))))
    exact ⟨e2, (hf.2.1 i hi).1, by rw [e1, h.lenD i hi]; exact Nat.le_refl _⟩
  few := hf.2.2
theorem PgL.on {w w' : World} {B : Nat} {P : Pgm} (h : PgL w B P) (hb : Below w.heap.size w w') : PgL w' B P :=
  ⟨h.own.later hb, (h.fr.below hb).more hb.size, (h.dr.below hb).more hb.size, fun a ha => (By.Wd.below (h.code a ha) hb).more hb.size, h.bd, h.lenF, h.lenD, h.src⟩
/-- The program of no files. -/
def noP : Pgm := ⟨none, 0, 0, [], none, 0, 0, [], 0, fun _ => []⟩
theorem noP_in (w : World) (B : Nat) : PgL w B noP := by
  refine ⟨⟨World.ownsRow_nil _ _ _ _, World.ownsRow_nil _ _ _ _, fun g hg => absurd hg (by simp [noP]), fun g hg => absurd hg (by simp [noP])⟩, Wd.nil, Wd.nil, ?_, ?_, ?_, ?_, ?_⟩
  all_goals (intro a ha; exact absurd ha (by simp [noP]))

theorem offs_le (os : List Oj) (s : Int) {i n : Nat} (h : i < n) : offs os s i + mostO (ojAt os i).fn (ojAt os i).dn s ≤ offs os s n := by
  induction n with
  | zero => omega
  | succ m ih =>
    by_cases e : i = m
    · subst e; exact Nat.le_refl _
    · have := ih (by omega)
      show _ ≤ offs os s m + _
      omega
section
variable {w w' : World} {A : Option Addr} {n c : Nat} {os : List Oj} {xs : Nat → Nat → By.Fn} {ws : Nat → Nat → List Int} {rs : Nat → Nat → List By.Rl}
/-- The number of the entry is one of a function's. -/
theorem entry_in (h : OjsW w A n c os xs ws rs) {nm : ByteArray} (hb : bindV os n (ckO os neV Si.isC Si.kindB (vfO os xs) (rfO os xs) (deO os ws rs)) nm = none) {q : Nat × Nat} (hq : findV (symsO os) nm = some q) :
    0 ≤ numV os q.1 q.2 ∧ numV os q.1 q.2 < (offs os 1 n : Int) := by
  obtain ⟨_, h2, _, h4⟩ := bind_none hb
  obtain ⟨f1, f2, _, f4⟩ := findV_some hq
  have hlo : os.length = n := h.mem.wd.1
  rw [symsO_length, hlo] at f1
  have hg := h.bx.good f1 (h2 _ f1)
  unfold entB at h4
  rw [hq] at h4
  simp only [decide_eq_true_eq] at h4
  have hr : rowS (symsO os) q.1 = (ojAt os q.1).l := rowS_symsO (by omega)
  have hd := hg.df q.2 (by rw [← hr]; exact f2)
  have ea : atS (symsO os) q.1 q.2 = syAt (ojAt os q.1).l q.2 := by unfold atS; rw [hr]
  unfold isG at f4
  simp only [Bool.and_eq_true, decide_eq_true_eq] at f4
  have hbo : boundAt (symsO os) (q.1, q.2) = ((q.1, q.2), 0) := by unfold boundAt; dsimp only; rw [if_pos f4.2]
  unfold numV
  rw [hbo]
  dsimp only
  rw [h4.1]
  rw [ea] at f4 h4 ⊢
  obtain ⟨_, hd2⟩ := hd
  rcases hd2 with hd2 | ⟨hd2, hd3⟩
  · exact absurd hd2 f4.2
  · rw [h4.1] at hd3
    have := offs_le os 1 (i := q.1) (n := n) f1
    unfold mostO at this hd3
    rw [if_pos rfl] at this hd3
    have h0 : (0 : Int) ≤ (syAt (ojAt os q.1).l q.2).2.2.2.2 := by rw [hd2]; exact Int.natCast_nonneg _
    omega

set_option maxHeartbeats 1000000 in
/-- BIND, of files that are few: the program is to be read. -/
theorem bind_in (h : OjsW w A n c os xs ws rs) (nm : ByteArray) :
    Calls Try.prog 21 #[.slice A n c, .string nm] w fun e w' => ∃ (P : Pgm) (r1 r2 r3 : Int), e = .returned (.tuple #[pgV P, .agg #[.int .i64 r1, .int .i64 r2, .int .i64 r3]]) ∧ PgL w' w.heap.size P ∧ Below w.heap.size w w' ∧ (r1 = 0 → 0 ≤ P.entry ∧ P.entry < (P.fn : Int)) := by
  refine (bind_doc h nm).mono fun e w' hh => ?_
  cases hb : bindV os n (ckO os neV Si.isC Si.kindB (vfO os xs) (rfO os xs) (deO os ws rs)) nm with
  | some r =>
    rw [hb] at hh
    obtain ⟨e1, e2⟩ := hh
    exact ⟨noP, _, _, _, e1, noP_in _ _, e2, fun e => absurd e (bind_some hb)⟩
  | none =>
    rw [hb] at hh
    obtain ⟨fs, ds, v1, v2, q, e1, e2, e3, e4, e5, e6⟩ := hh
    obtain ⟨A1, c1, rfl, g1⟩ := wd_own encGf_len rfl e6.fr
    obtain ⟨A2, c2, rfl, g2⟩ := wd_own encGd_len rfl e6.dr
    have hlf : fs.length = offs os 1 n := by rw [e3.len, fpos_len]; rfl
    have hpl : (fpos os n 0).length = fs.length := e3.len.symm
    have hpd : (dpos os n 0).length = ds.length := e4.len.symm
    have hfn : ∀ a, a < fs.length → FnOk w (gfAt fs a).F (xs (poAt (fpos os n 0) a).1 (poAt (fpos os n 0) a).2) := fun a ha => by
      obtain ⟨k1, k2⟩ := fpos_in (poAt_mem (ps := fpos os n 0) (a := a) (by omega))
      rw [(e3.at_ ha).2.2.1]
      exact h.fns _ k1 _ k2
    refine ⟨⟨A1, fs.length, c1, fs, A2, ds.length, c2, ds, numV os q.1 q.2, fun a => (xs (poAt (fpos os n 0) a).1 (poAt (fpos os n 0) a).2).cs⟩, 0, 0, 0, e1, ⟨e6, g1, g2, fun a ha => ?_, fun a ha k => ?_, fun a ha => ?_, fun a ha => ?_, fun a ha => ⟨w, _, hfn a ha⟩⟩, e5, fun _ => ?_⟩
    · exact ((hfn a ha).on e5).fw.hc
    · dsimp only
      by_cases hk : k < (xs (poAt (fpos os n 0) a).1 (poAt (fpos os n 0) a).2).cs.length
      · exact (hfn a ha).bd.2 k hk
      · have e : By.inAt (xs (poAt (fpos os n 0) a).1 (poAt (fpos os n 0) a).2).cs k = (0, 0, 0, 0, 0) := by unfold By.inAt; rw [List.getD_eq_getElem?_getD, List.getElem?_eq_none (by omega)]; rfl
        rw [e]; decide
    · dsimp only at ha ⊢
      rw [(e3.at_ ha).2.2.2, (e3.at_ ha).2.2.1, rfF_len]
    · dsimp only at ha ⊢
      rw [(e4.at_ ha).2, (e4.at_ ha).1, rfD_len]
    · dsimp only
      rw [hlf]
      exact entry_in h hb e2
end
end Go.Proofs.Ytbcabomblfehlab.Bo
