/-
  READING of files that came in, whole.
-/
import Derived.Test.YtbcabomblfehlabTa
import Derived.Test.YtbcabomblfehlabQj
import Derived.Deep.Matrix
import Derived.Deep.Slices
import Derived.ChangeSame
import Derived.ChangeOld
import Derived.ChangeShapes
import Derived.ChangeArms
import Derived.OpenShut
namespace Go.Proofs.Ytbcabomblfehlab.By
open Go.Maps Go.Deep Go.ChangeShapes Go.WideShapes Go.ChangeAt Go.RowKit
open Mem Rf
set_option linter.unusedSimpArgs false
set_option linter.unusedVariables false
set_option maxRecDepth 100000

theorem wd_of {α : Type} {k : Nat} {enc : α → List Value} {W : World} {ad : Addr} {len cap : Nat} (hk : ∀ x, 0 < (enc x).length) (hl : len ≤ cap) (hm : cap ≤ maxLen) (q : Nat → α) (hq : ∀ i, i < len → ∀ j u, (enc (q i))[j]? = some u → W.cell? ((ad.add (i * k)).add j) = some u) : Wd k enc W W.heap.size (some ad) len cap ((List.range len).map q) := by
  refine ⟨by simp, hl, hm, fun e => by simp at e, fun i x hi => ?_⟩
  have hil : i < len := by have := (List.getElem?_eq_some_iff.1 hi).1; simpa using this
  rw [List.getElem?_map, List.getElem?_range hil] at hi
  injection hi with hi
  subst hi
  refine ⟨ad, rfl, ?_, hq i hil⟩
  have h0 := hq i hil 0 _ (List.getElem?_eq_getElem (hk (q i)))
  have := World.block_lt_of_cell? W _ h0
  rw [add_block, add_block] at this
  exact this

theorem ints_slv {W : World} {ad : Addr} {L C : Nat} (l : List Int) (hl : l.length = L) (hc : L ≤ C) (hm : C ≤ maxLen) (h : ∀ j, j < L → W.cell? (ad.add j) = some (.int .i64 (l.getD j 0))) : IW W (.slice (some ad) L C) l := by
  subst hl
  have hlen : (ints l).length = l.length := by simp [ints]
  have : SlV W W.heap.size (.slice (some ad) (ints l).length C) (ints l) := .at_ ad C _ (by rw [hlen]; exact hc) hm (Row.here fun j u hu => by
    have hj : j < l.length := by
      have := (List.getElem?_eq_some_iff.1 hu).1
      rwa [hlen] at this
    rw [ints_at hj] at hu
    rw [h j hj, ← hu]; rfl)
  rwa [hlen] at this

section
variable {H : Type} {enc : TypeId × Value → H} {W : World} {fuel : Nat} {held : Bool} {a : Option Addr} {len cap : Nat} {x : DataW H × List MemPlace}
theorem ints_of (h : DataW.trod enc Try.prog W 0 (fun _ => true) held fuel 46 [.slice a len cap] = some x) : ∃ l : List Int, l.length = len ∧ IW W (.slice a len cap) l := by
  rcases Go.ChangeShapes.open_ints (k := .i64) Try.underlying46 Try.underlying2 (by kernel_rfl) h with ⟨h1, _⟩ | ⟨ad, len', cap', zs, h1, _, hl, hm, hz, _, hc, _⟩
  · rw [List.cons.injEq, Value.slice.injEq] at h1
    obtain ⟨⟨rfl, rfl, rfl⟩, _⟩ := h1
    exact ⟨[], rfl, .nil⟩
  · rw [List.cons.injEq, Value.slice.injEq] at h1
    obtain ⟨⟨rfl, rfl, rfl⟩, _⟩ := h1
    simp only [if_true] at hz
    refine ⟨zs.take len, by rw [List.length_take]; omega, ints_slv _ (by rw [List.length_take]; omega) hl hm fun j hj => ?_⟩
    rw [hc j (by omega), List.getD_eq_getElem?_getD, List.getD_eq_getElem?_getD, List.getElem?_take, if_pos hj]



set_option maxRecDepth 100000 in
theorem relocs_of (h : DataW.trod enc Try.prog W 0 (fun _ => true) held fuel 47 [.slice a len cap] = some x) : ∃ l : List Rl, l.length = len ∧ RlL W a len cap l := by
  rcases open_slice Try.underlying47 h with ⟨hcs, _⟩ | ⟨ad, l, c, m, n, D, Pl, hcs, _, hl, hm, hmm, _, hi⟩
  · simp only [List.cons.injEq, Value.slice.injEq, and_true] at hcs
    obtain ⟨rfl, rfl, rfl⟩ := hcs
    exact ⟨[], rfl, Wd.nil⟩
  · simp only [List.cons.injEq, Value.slice.injEq, and_true] at hcs
    obtain ⟨rfl, rfl, rfl⟩ := hcs
    have hlm : len ≤ m := by rw [hmm]; split <;> omega
    have hcN : Try.prog.cellsOf 95 = 3 := by kernel_rfl
    have hc3 : Try.prog.cellsOf 3 = 1 := by kernel_rfl
    have hc4 : Try.prog.cellsOf 4 = 1 := by kernel_rfl
    have hc9 : Try.prog.cellsOf 9 = 1 := by kernel_rfl
    have each : ∀ i, i < len → ∃ q : Rl, ∀ j u, (encRl q)[j]? = some u → W.cell? ((ad.add (i * 3)).add j) = some u := fun i hil => by
      obtain ⟨cs', h1, h2⟩ := hi i (by omega)
      rw [hcN] at h1
      obtain ⟨_, hlen, hcell⟩ := World.cells?_some h1
      obtain ⟨xs, k, _, _, _, hxl, hf⟩ := DataW.trod_struct Try.underlying95 h2
      match xs, hxl, cs', hlen with
      | [z0, z1, z2], _, [v0, v1, v2], _ =>
        have g0 := hf 0 _ rfl
        have g1 := hf 1 _ rfl
        have g2 := hf 2 _ rfl
        simp [hc3, hc4, hc9] at g0 g1 g2
        obtain ⟨a0, e0, _, w0⟩ := DataW.trod_int Try.underlying3 g0
        obtain ⟨a1, e1, _, w1⟩ := DataW.trod_int Try.underlying3 g1
        obtain ⟨a2, e2, _⟩ := DataW.trod_bool Try.underlying4 g2
        simp only [List.cons.injEq, and_true] at e0 e1 e2
        subst e0 e1 e2
        refine ⟨(a0, a1, a2), fun j u hu => ?_⟩
        have hj : j < 3 := by have := (List.getElem?_eq_some_iff.1 hu).1; simpa [encRl] using this
        have f := hcell j (by simpa using hj)
        match j, hj with
        | 0, _ => rw [f]; simpa [encRl] using hu
        | 1, _ => rw [f]; simpa [encRl] using hu
        | 2, _ => rw [f]; simpa [encRl] using hu
    obtain ⟨q, hq⟩ := choose_lt each
    exact ⟨(List.range len).map q, by simp, wd_of (fun x => by simp [encRl]) hl hm q hq⟩

theorem kinds_bd (h : DataW.trod enc Try.prog W 0 (fun _ => true) held fuel 24 [.slice a len cap] = some x) : ∃ l : List Int, l.length = len ∧ IW W (.slice a len cap) l ∧ ∀ n ∈ l, (Lit.int .i64 n).wf = true := by
  rcases Go.ChangeShapes.open_ints (k := .i64) Try.underlying24 Try.underlying3 (by kernel_rfl) h with ⟨h1, _⟩ | ⟨ad, len', cap', zs, h1, _, hl, hm, hz, _, hc, hwz⟩
  · rw [List.cons.injEq, Value.slice.injEq] at h1
    obtain ⟨⟨rfl, rfl, rfl⟩, _⟩ := h1
    exact ⟨[], rfl, .nil, fun n hn => absurd hn (by simp)⟩
  · rw [List.cons.injEq, Value.slice.injEq] at h1
    obtain ⟨⟨rfl, rfl, rfl⟩, _⟩ := h1
    simp only [if_true] at hz
    refine ⟨zs.take len, by rw [List.length_take]; omega, ints_slv _ (by rw [List.length_take]; omega) hl hm fun j hj => ?_, fun n hn => hwz n (List.mem_of_mem_take hn)⟩
    rw [hc j (by omega), List.getD_eq_getElem?_getD, List.getD_eq_getElem?_getD, List.getElem?_take, if_pos hj]

set_option maxRecDepth 100000 in
theorem lines_of (h : DataW.trod enc Try.prog W 0 (fun _ => true) held fuel 70 [.slice a len cap] = some x) : ∃ l : List Ln, l.length = len ∧ LnL W a len cap l := by
  rcases open_slice Try.underlying70 h with ⟨hcs, _⟩ | ⟨ad, l, c, m, n, D, Pl, hcs, _, hl, hm, hmm, _, hi⟩
  · simp only [List.cons.injEq, Value.slice.injEq, and_true] at hcs
    obtain ⟨rfl, rfl, rfl⟩ := hcs
    exact ⟨[], rfl, Wd.nil⟩
  · simp only [List.cons.injEq, Value.slice.injEq, and_true] at hcs
    obtain ⟨rfl, rfl, rfl⟩ := hcs
    have hlm : len ≤ m := by rw [hmm]; split <;> omega
    have hcN : Try.prog.cellsOf 153 = 2 := by kernel_rfl
    have hc3 : Try.prog.cellsOf 3 = 1 := by kernel_rfl
    have hc4 : Try.prog.cellsOf 4 = 1 := by kernel_rfl
    have hc9 : Try.prog.cellsOf 9 = 1 := by kernel_rfl
    have each : ∀ i, i < len → ∃ q : Ln, ∀ j u, (encLn q)[j]? = some u → W.cell? ((ad.add (i * 2)).add j) = some u := fun i hil => by
      obtain ⟨cs', h1, h2⟩ := hi i (by omega)
      rw [hcN] at h1
      obtain ⟨_, hlen, hcell⟩ := World.cells?_some h1
      obtain ⟨xs, k, _, _, _, hxl, hf⟩ := DataW.trod_struct Try.underlying153 h2
      match xs, hxl, cs', hlen with
      | [z0, z1], _, [v0, v1], _ =>
        have g0 := hf 0 _ rfl
        have g1 := hf 1 _ rfl
        simp [hc3, hc4, hc9] at g0 g1
        obtain ⟨a0, e0, _, w0⟩ := DataW.trod_int Try.underlying3 g0
        obtain ⟨a1, e1, _, w1⟩ := DataW.trod_int Try.underlying3 g1
        simp only [List.cons.injEq, and_true] at e0 e1
        subst e0 e1
        refine ⟨(a0, a1), fun j u hu => ?_⟩
        have hj : j < 2 := by have := (List.getElem?_eq_some_iff.1 hu).1; simpa [encLn] using this
        have f := hcell j (by simpa using hj)
        match j, hj with
        | 0, _ => rw [f]; simpa [encLn] using hu
        | 1, _ => rw [f]; simpa [encLn] using hu
    obtain ⟨q, hq⟩ := choose_lt each
    exact ⟨(List.range len).map q, by simp, wd_of (fun x => by simp [encLn]) hl hm q hq⟩

set_option maxRecDepth 100000 in
theorem code_bd (h : DataW.trod enc Try.prog W 0 (fun _ => true) held fuel 71 [.slice a len cap] = some x) : ∃ l : List In5, l.length = len ∧ InL W a len cap l ∧ ∀ y ∈ l, (Lit.int .i64 y.1).wf = true := by
  rcases open_slice Try.underlying71 h with ⟨hcs, _⟩ | ⟨ad, l, c, m, n, D, Pl, hcs, _, hl, hm, hmm, _, hi⟩
  · simp only [List.cons.injEq, Value.slice.injEq, and_true] at hcs
    obtain ⟨rfl, rfl, rfl⟩ := hcs
    exact ⟨[], rfl, Wd.nil, fun y hy => absurd hy (by simp)⟩
  · simp only [List.cons.injEq, Value.slice.injEq, and_true] at hcs
    obtain ⟨rfl, rfl, rfl⟩ := hcs
    have hlm : len ≤ m := by rw [hmm]; split <;> omega
    have hcN : Try.prog.cellsOf 93 = 5 := by kernel_rfl
    have hc3 : Try.prog.cellsOf 3 = 1 := by kernel_rfl
    have hc4 : Try.prog.cellsOf 4 = 1 := by kernel_rfl
    have hc2 : Try.prog.cellsOf 2 = 1 := by kernel_rfl
    have hc9 : Try.prog.cellsOf 9 = 1 := by kernel_rfl
    have each : ∀ i, i < len → ∃ q : In5, (∀ j u, (encIn q)[j]? = some u → W.cell? ((ad.add (i * 5)).add j) = some u) ∧ (Lit.int .i64 q.1).wf = true := fun i hil => by
      obtain ⟨cs', h1, h2⟩ := hi i (by omega)
      rw [hcN] at h1
      obtain ⟨_, hlen, hcell⟩ := World.cells?_some h1
      obtain ⟨xs, k, _, _, _, hxl, hf⟩ := DataW.trod_struct Try.underlying93 h2
      match xs, hxl, cs', hlen with
      | [z0, z1, z2, z3, z4], _, [v0, v1, v2, v3, v4], _ =>
        have g0 := hf 0 _ rfl
        have g1 := hf 1 _ rfl
        have g2 := hf 2 _ rfl
        have g3 := hf 3 _ rfl
        have g4 := hf 4 _ rfl
        simp [hc2, hc3, hc4, hc9] at g0 g1 g2 g3 g4
        obtain ⟨a0, e0, _, w0⟩ := DataW.trod_int Try.underlying3 g0
        obtain ⟨a1, e1, _, w1⟩ := DataW.trod_int Try.underlying3 g1
        obtain ⟨a2, e2, _, w2⟩ := DataW.trod_int Try.underlying3 g2
        obtain ⟨a3, e3, _, w3⟩ := DataW.trod_int Try.underlying3 g3
        obtain ⟨a4, e4, _, w4⟩ := DataW.trod_int Try.underlying2 g4
        simp only [List.cons.injEq, and_true] at e0 e1 e2 e3 e4
        subst e0 e1 e2 e3 e4
        refine ⟨(a0, a1, a2, a3, a4), fun j u hu => ?_, w0⟩
        have hj : j < 5 := by have := (List.getElem?_eq_some_iff.1 hu).1; simpa [encIn] using this
        have f := hcell j (by simpa using hj)
        match j, hj with
        | 0, _ => rw [f]; simpa [encIn] using hu
        | 1, _ => rw [f]; simpa [encIn] using hu
        | 2, _ => rw [f]; simpa [encIn] using hu
        | 3, _ => rw [f]; simpa [encIn] using hu
        | 4, _ => rw [f]; simpa [encIn] using hu
    obtain ⟨q, hq⟩ := choose_lt each
    exact ⟨(List.range len).map q, by simp, wd_of (fun x => by simp [encIn]) hl hm q (fun i hi => (hq i hi).1), fun y hy => by
      obtain ⟨i, hi, rfl⟩ := List.mem_map.1 hy
      exact (hq i (List.mem_range.1 hi)).2⟩
end
section
variable {H : Type} {enc : TypeId × Value → H} {W : World} {fuel : Nat} {held : Bool} {x : DataW H × List MemPlace}
theorem sl_form {t e : TypeId} {v : Value} (ht : Try.prog.underlying t = some (.slice e)) (h : DataW.trod enc Try.prog W 0 (fun _ => true) held fuel t [v] = some x) : ∃ a len cap, v = .slice a len cap := by
  rcases open_slice ht h with ⟨hcs, _⟩ | ⟨ad, l, c, m, n, D, Pl, hcs, _, hl, hm, hmm, _, hi⟩
  · simp only [List.cons.injEq, and_true] at hcs
    exact ⟨none, 0, 0, hcs⟩
  · simp only [List.cons.injEq, and_true] at hcs
    exact ⟨some ad, l, c, hcs⟩
end
end Go.Proofs.Ytbcabomblfehlab.By

namespace Go.Proofs.Ytbcabomblfehlab.Bo
open Go.Maps Go.Deep Go.ChangeShapes Go.WideShapes Go.ChangeAt Go.RowKit
open Mem Rf
set_option linter.unusedSimpArgs false
set_option linter.unusedVariables false
set_option maxRecDepth 100000

/-- A function that came in. -/
structure FnI (w : World) (F : Fc) (x : By.Fn) : Prop where
  fw : By.FnW w F.kinds.1 F.kinds.2.1 F.kinds.2.2 F.lines.1 F.lines.2.1 F.lines.2.2 F.code.1 F.code.2.1 F.code.2.2 F.rel.1 F.rel.2.1 F.rel.2.2 x
  hk : x.k = F.cl
  hpd : x.pd = F.pad
  hns : x.ns = F.no
  hf : x.f = F.f
  ht : x.t = F.t
  bd : (∀ z ∈ x.ks, -9223372036854775808 ≤ z ∧ z ≤ 9223372036854775807) ∧ ∀ k, k < x.cs.length → -9223372036854775808 ≤ (By.inAt x.cs k).1 ∧ (By.inAt x.cs k).1 ≤ 9223372036854775807
  wf : (Lit.int .i64 F.cl).wf = true ∧ (Lit.int .i64 F.pad).wf = true ∧ (Lit.int .i64 F.f).wf = true ∧ (Lit.int .i64 F.t).wf = true
/-- Data that came in. -/
structure DtI (w : World) (D : Dc) (ws : List Int) (rs : List By.Rl) : Prop where
  hw : By.IW w (.slice D.words.1 D.words.2.1 D.words.2.2) ws
  hl : ws.length = D.words.2.1
  hr : By.RlL w D.rel.1 D.rel.2.1 D.rel.2.2 rs
  bd : -9223372036854775808 ≤ D.kd ∧ D.kd ≤ 9223372036854775807
theorem FnI.ok {w : World} {F : Fc} {x : By.Fn} (h : FnI w F x) (hl : ltF F) : FnOk w F x := ⟨h.fw, h.hk, h.hpd, h.hns, h.hf, h.ht, hl, h.bd⟩
theorem DtI.ok {w : World} {D : Dc} {ws : List Int} {rs : List By.Rl} (h : DtI w D ws rs) (hl : ltD D) : DtOk w D ws rs := ⟨h.hw, h.hl, h.hr, hl, h.bd⟩
theorem wd_few {α : Type} {k : Nat} {enc : α → List Value} {w : World} {B n c : Nat} {A : Option Addr} {l : List α} (h : By.Wd k enc w B A n c l) : n ≤ 9223372036854775807 := by
  have h1 := h.2.1
  have h2 := h.2.2.1
  unfold maxLen at h2; omega
theorem iw_few {w : World} {A : Option Addr} {n c : Nat} {l : List Int} (h : By.IW w (.slice A n c) l) : n ≤ 9223372036854775807 := by
  rcases SlV.inv h with ⟨_, h, _⟩ | ⟨_, _, _, h3, h4, _⟩
  · omega
  · unfold maxLen at h4; omega
theorem FnI.few {w : World} {F : Fc} {x : By.Fn} (h : FnI w F x) : okF F := ⟨iw_few h.fw.hk, wd_few h.fw.hl, wd_few h.fw.hc, wd_few h.fw.hr⟩
theorem DtI.few {w : World} {D : Dc} {ws : List Int} {rs : List By.Rl} (h : DtI w D ws rs) : okD D := ⟨iw_few h.hw, wd_few h.hr⟩
/-- An object that came in. -/
structure ObI (w : World) (o : Oj) (xs : Nat → By.Fn) (ws : Nat → List Int) (rs : Nat → List By.Rl) : Prop where
  mem : OjL w o
  kinds : ∀ k, -9223372036854775808 ≤ (syAt o.l k).2.2.2.1 ∧ (syAt o.l k).2.2.2.1 ≤ 9223372036854775807
  fns : ∀ k, k < o.fn → FnI w (fcAt o.fl k) (xs k)
  dats : ∀ k, k < o.dn → DtI w (dcAt o.dl k) (ws k) (rs k)
/-- Files that came in. -/
structure OjsI (w : World) (A : Option Addr) (n c : Nat) (os : List Oj) (xs : Nat → Nat → By.Fn) (ws : Nat → Nat → List Int) (rs : Nat → Nat → List By.Rl) : Prop where
  mem : OjsL w A n c os
  each : ∀ i, i < n → ObI w (ojAt os i) (xs i) (ws i) (rs i)
theorem OjsI.ok {w : World} {A : Option Addr} {n c : Nat} {os : List Oj} {xs : Nat → Nat → By.Fn} {ws : Nat → Nat → List Int} {rs : Nat → Nat → List By.Rl} (h : OjsI w A n c os xs ws rs) (hf : n ≤ 9 ∧ ∀ i, i < n → ltO (ojAt os i)) : OjsW w A n c os xs ws rs where
  mem := h.mem
  few := ⟨hf.1, fun i hi => (hf.2 i hi).1⟩
  names := fun i hi => (hf.2 i hi).2.1
  kinds := fun i hi => (h.each i hi).kinds
  fns := fun i hi k hk => ((h.each i hi).fns k hk).ok ((hf.2 i hi).2.2.1 k hk)
  dats := fun i hi k hk => ((h.each i hi).dats k hk).ok ((hf.2 i hi).2.2.2 k hk)
/-- FEW, of files that came in. -/
theorem few_in {w : World} {A : Option Addr} {n c : Nat} {os : List Oj} {xs : Nat → Nat → By.Fn} {ws : Nat → Nat → List Int} {rs : Nat → Nat → List By.Rl} (h : OjsI w A n c os xs ws rs) :
    Calls Try.prog 20 #[.slice A n c] w fun e w' => FewB e (OjsW w A n c os xs ws rs) ∧ Below w.heap.size w w' :=
  (fewL24 w A n c os h.mem (fun i hi k hk => ((h.each i hi).fns k hk).few) (fun i hi k hk => ((h.each i hi).dats k hk).few)).mono fun e w' hh => by
    obtain ⟨⟨b, e1, e2⟩, hb⟩ := hh
    exact ⟨⟨b, e1, fun e => h.ok (e2 e)⟩, hb⟩

instance : Inhabited Fc := ⟨fc0⟩
instance : Inhabited Dc := ⟨dc0⟩
instance : Inhabited Oj := ⟨oj0⟩
instance : Inhabited By.Fn := ⟨⟨0, [], 0, false, 0, 0, [], [], []⟩⟩
theorem fcAt_map {n i : Nat} (q : Nat → Fc) (h : i < n) : fcAt ((List.range n).map q) i = q i := by
  unfold fcAt; rw [List.getD_eq_getElem?_getD, List.getElem?_map, List.getElem?_range h]; rfl
theorem dcAt_map {n i : Nat} (q : Nat → Dc) (h : i < n) : dcAt ((List.range n).map q) i = q i := by
  unfold dcAt; rw [List.getD_eq_getElem?_getD, List.getElem?_map, List.getElem?_range h]; rfl
theorem ojAt_map {n i : Nat} (q : Nat → Oj) (h : i < n) : ojAt ((List.range n).map q) i = q i := by
  unfold ojAt; rw [List.getD_eq_getElem?_getD, List.getElem?_map, List.getElem?_range h]; rfl
section
variable {H : Type} {enc : TypeId × Value → H} {W : World} {fuel : Nat} {held : Bool} {x : DataW H × List MemPlace}
theorem wd_of {α : Type} {k : Nat} {enc : α → List Value} {W : World} {ad : Addr} {len cap : Nat} (hk : ∀ x, 0 < (enc x).length) (hl : len ≤ cap) (hm : cap ≤ maxLen) (q : Nat → α) (hq : ∀ i, i < len → ∀ j u, (enc (q i))[j]? = some u → W.cell? ((ad.add (i * k)).add j) = some u) : Wd k enc W W.heap.size (some ad) len cap ((List.range len).map q) := By.wd_of hk hl hm q hq

theorem syms_in {v : Value} (h : DataW.trod enc Try.prog W 0 (fun _ => true) held fuel 78 [v] = some x) : ∃ A n c, ∃ l : List Sy, v = .slice A n c ∧ SyL W A n c l ∧ ∀ y ∈ l, (Lit.int .i64 y.2.2.2.1).wf = true := by
  rcases open_slice Try.underlying78 h with ⟨hcs, _⟩ | ⟨ad, len, c, m, n, D, Pl, hcs, _, hl, hm, hmm, _, hi⟩
  · simp only [List.cons.injEq, and_true] at hcs
    exact ⟨none, 0, 0, [], hcs, Wd.nil, fun y hy => absurd hy (by simp)⟩
  · simp only [List.cons.injEq, and_true] at hcs
    have hlm : len ≤ m := by rw [hmm]; split <;> omega
    have hcN : Try.prog.cellsOf 89 = 5 := by kernel_rfl
    have hc3 : Try.prog.cellsOf 3 = 1 := by kernel_rfl
    have hc4 : Try.prog.cellsOf 4 = 1 := by kernel_rfl
    have hc9 : Try.prog.cellsOf 9 = 1 := by kernel_rfl
    have each : ∀ i, i < len → ∃ q : Sy, (∀ j u, (encSy q)[j]? = some u → W.cell? ((ad.add (i * 5)).add j) = some u) ∧ (Lit.int .i64 q.2.2.2.1).wf = true := fun i hil => by
      obtain ⟨cs', h1, h2⟩ := hi i (by omega)
      rw [hcN] at h1
      obtain ⟨_, hlen, hcell⟩ := World.cells?_some h1
      obtain ⟨xs, k, _, _, _, hxl, hf⟩ := DataW.trod_struct Try.underlying89 h2
      match xs, hxl, cs', hlen with
      | [z0, z1, z2, z3, z4], _, [v0, v1, v2, v3, v4], _ =>
        have g0 := hf 0 _ rfl
        have g1 := hf 1 _ rfl
        have g2 := hf 2 _ rfl
        have g3 := hf 3 _ rfl
        have g4 := hf 4 _ rfl
        simp [hc3, hc4, hc9] at g0 g1 g2 g3 g4
        obtain ⟨a0, e0, _, w0⟩ := DataW.trod_string Try.underlying9 g0
        obtain ⟨a1, e1, _⟩ := DataW.trod_bool Try.underlying4 g1
        obtain ⟨a2, e2, _, w2⟩ := DataW.trod_int Try.underlying3 g2
        obtain ⟨a3, e3, _, w3⟩ := DataW.trod_int Try.underlying3 g3
        obtain ⟨a4, e4, _, w4⟩ := DataW.trod_int Try.underlying3 g4
        simp only [List.cons.injEq, and_true] at e0 e1 e2 e3 e4
        subst e0 e1 e2 e3 e4
        refine ⟨(a0, a1, a2, a3, a4), fun j u hu => ?_, w3⟩
        have hj : j < 5 := by have := (List.getElem?_eq_some_iff.1 hu).1; simpa [encSy] using this
        have f := hcell j (by simpa using hj)
        match j, hj with
        | 0, _ => rw [f]; simpa [encSy] using hu
        | 1, _ => rw [f]; simpa [encSy] using hu
        | 2, _ => rw [f]; simpa [encSy] using hu
        | 3, _ => rw [f]; simpa [encSy] using hu
        | 4, _ => rw [f]; simpa [encSy] using hu
    obtain ⟨q, hq⟩ := choose_lt each
    exact ⟨some ad, len, c, (List.range len).map q, hcs, wd_of (fun x => by simp [encSy]) hl hm q (fun i hi => (hq i hi).1), fun y hy => by
      obtain ⟨i, hi, rfl⟩ := List.mem_map.1 hy
      exact (hq i (List.mem_range.1 hi)).2⟩

theorem fun_in {cs : List Value} (h : DataW.trod enc Try.prog W 0 (fun _ => true) held fuel 73 cs = some x) :
    ∃ q : Fc × By.Fn, cs = encFc q.1 ∧ FnI W q.1 q.2 := by
  have hcN : Try.prog.cellsOf 73 = 9 := by kernel_rfl
  have hc3 : Try.prog.cellsOf 3 = 1 := by kernel_rfl
  have hc4 : Try.prog.cellsOf 4 = 1 := by kernel_rfl
  have hk : Try.prog.cellsOf 24 = 1 := by kernel_rfl
  have hk1 : Try.prog.cellsOf 70 = 1 := by kernel_rfl
  have hk2 : Try.prog.cellsOf 71 = 1 := by kernel_rfl
  have hk3 : Try.prog.cellsOf 47 = 1 := by kernel_rfl
  obtain ⟨xs, k, _, _, hlen, hxl, hf⟩ := DataW.trod_struct Try.underlying73 h
  rw [hcN] at hlen
  match xs, hxl, cs, hlen with
  | [z0, z1, z2, z3, z4, z5, z6, z7, z8], _, [v0, v1, v2, v3, v4, v5, v6, v7, v8], _ =>
    have g0 := hf 0 _ rfl
    have g1 := hf 1 _ rfl
    have g2 := hf 2 _ rfl
    have g3 := hf 3 _ rfl
    have g4 := hf 4 _ rfl
    have g5 := hf 5 _ rfl
    have g6 := hf 6 _ rfl
    have g7 := hf 7 _ rfl
    have g8 := hf 8 _ rfl
    simp [hc3, hc4, hk, hk1, hk2, hk3] at g0 g1 g2 g3 g4 g5 g6 g7 g8
    obtain ⟨a0, e0, _, w0⟩ := DataW.trod_int Try.underlying3 g0
    obtain ⟨a1, n1, c1, rfl⟩ := By.sl_form Try.underlying24 g1
    obtain ⟨a2, e2, _, w2⟩ := DataW.trod_int Try.underlying3 g2
    obtain ⟨a3, e3, _⟩ := DataW.trod_bool Try.underlying4 g3
    obtain ⟨a4, e4, _, w4⟩ := DataW.trod_int Try.underlying3 g4
    obtain ⟨a5, e5, _, w5⟩ := DataW.trod_int Try.underlying3 g5
    obtain ⟨a6, n6, c6, rfl⟩ := By.sl_form Try.underlying70 g6
    obtain ⟨a7, n7, c7, rfl⟩ := By.sl_form Try.underlying71 g7
    obtain ⟨a8, n8, c8, rfl⟩ := By.sl_form Try.underlying47 g8
    simp only [List.cons.injEq, and_true] at e0 e2 e3 e4 e5
    subst e0 e2 e3 e4 e5
    obtain ⟨ks, hk1, hk2, hk3⟩ := By.kinds_bd g1
    obtain ⟨ls, hl1, hl2⟩ := By.lines_of g6
    obtain ⟨cs, hc1, hc2, hc3⟩ := By.code_bd g7
    obtain ⟨rs, hr1, hr2⟩ := By.relocs_of g8
    exact ⟨(⟨a0, (a1, n1, c1), a2, a3, a4, a5, (a6, n6, c6), (a7, n7, c7), (a8, n8, c8)⟩, ⟨a0, ks, a2, a3, a4, a5, ls, cs, rs⟩), rfl, ⟨⟨hk2, hk1, hl2, hc2, hr2⟩, rfl, rfl, rfl, rfl, rfl, ⟨fun n hn => bounds_i64 (hk3 n hn), fun k hk => bounds_i64 (hc3 _ (by
      have e := By.inAt_some (l := cs) hk
      exact List.mem_of_getElem? e))⟩, w0, w2, w4, w5⟩⟩

theorem dat_in {cs : List Value} (h : DataW.trod enc Try.prog W 0 (fun _ => true) held fuel 49 cs = some x) :
    ∃ q : Dc × List Int × List By.Rl, cs = encDc q.1 ∧ DtI W q.1 q.2.1 q.2.2 := by
  have hcN : Try.prog.cellsOf 49 = 3 := by kernel_rfl
  have hc3 : Try.prog.cellsOf 3 = 1 := by kernel_rfl
  have hk2 : Try.prog.cellsOf 46 = 1 := by kernel_rfl
  have hk3 : Try.prog.cellsOf 47 = 1 := by kernel_rfl
  obtain ⟨xs, k, _, _, hlen, hxl, hf⟩ := DataW.trod_struct Try.underlying49 h
  rw [hcN] at hlen
  match xs, hxl, cs, hlen with
  | [z0, z1, z2], _, [v0, v1, v2], _ =>
    have g0 := hf 0 _ rfl
    have g1 := hf 1 _ rfl
    have g2 := hf 2 _ rfl
    simp [hc3, hk2, hk3] at g0 g1 g2
    obtain ⟨a0, e0, _, w0⟩ := DataW.trod_int Try.underlying3 g0
    obtain ⟨a1, n1, c1, rfl⟩ := By.sl_form Try.underlying46 g1
    obtain ⟨a2, n2, c2, rfl⟩ := By.sl_form Try.underlying47 g2
    simp only [List.cons.injEq, and_true] at e0
    subst e0
    obtain ⟨ws, hw1, hw2⟩ := By.ints_of g1
    obtain ⟨rs, hr1, hr2⟩ := By.relocs_of g2
    exact ⟨(⟨a0, (a1, n1, c1), (a2, n2, c2)⟩, ws, rs), rfl, ⟨hw2, hw1, hr2, bounds_i64 w0⟩⟩

theorem funs_in {v : Value} (h : DataW.trod enc Try.prog W 0 (fun _ => true) held fuel 79 [v] = some x) : ∃ A n c, ∃ q : Nat → Fc × By.Fn, v = .slice A n c ∧ Wd 9 encFc W W.heap.size A n c ((List.range n).map fun i => (q i).1) ∧ ∀ i, i < n → FnI W (q i).1 (q i).2 := by
  rcases open_slice Try.underlying79 h with ⟨hcs, _⟩ | ⟨ad, len, c, m, n, D, Pl, hcs, _, hl, hm, hmm, _, hi⟩
  · simp only [List.cons.injEq, and_true] at hcs
    exact ⟨none, 0, 0, fun _ => default, hcs, Wd.nil, fun i hi => absurd hi (by omega)⟩
  · simp only [List.cons.injEq, and_true] at hcs
    have hlm : len ≤ m := by rw [hmm]; split <;> omega
    have hcN : Try.prog.cellsOf 73 = 9 := by kernel_rfl
    have each : ∀ i, i < len → ∃ q : Fc × By.Fn, (∀ j u, (encFc q.1)[j]? = some u → W.cell? ((ad.add (i * 9)).add j) = some u) ∧ FnI W q.1 q.2 := fun i hil => by
      obtain ⟨cs', h1, h2⟩ := hi i (by omega)
      rw [hcN] at h1
      obtain ⟨_, hlen, hcell⟩ := World.cells?_some h1
      obtain ⟨q, rfl, h3⟩ := fun_in h2
      refine ⟨q, fun j u hu => ?_, h3⟩
      have hj : j < 9 := by have := (List.getElem?_eq_some_iff.1 hu).1; simpa [encFc] using this
      rw [hcell j hj]; exact hu
    obtain ⟨q, hq⟩ := choose_lt each
    exact ⟨some ad, len, c, q, hcs, wd_of (fun x => by simp [encFc]) hl hm (fun i => (q i).1) (fun i hi => (hq i hi).1), fun i hi => (hq i hi).2⟩

theorem dats_in {v : Value} (h : DataW.trod enc Try.prog W 0 (fun _ => true) held fuel 80 [v] = some x) : ∃ A n c, ∃ q : Nat → Dc × List Int × List By.Rl, v = .slice A n c ∧ Wd 3 encDc W W.heap.size A n c ((List.range n).map fun i => (q i).1) ∧ ∀ i, i < n → DtI W (q i).1 (q i).2.1 (q i).2.2 := by
  rcases open_slice Try.underlying80 h with ⟨hcs, _⟩ | ⟨ad, len, c, m, n, D, Pl, hcs, _, hl, hm, hmm, _, hi⟩
  · simp only [List.cons.injEq, and_true] at hcs
    exact ⟨none, 0, 0, fun _ => default, hcs, Wd.nil, fun i hi => absurd hi (by omega)⟩
  · simp only [List.cons.injEq, and_true] at hcs
    have hlm : len ≤ m := by rw [hmm]; split <;> omega
    have hcN : Try.prog.cellsOf 49 = 3 := by kernel_rfl
    have each : ∀ i, i < len → ∃ q : Dc × List Int × List By.Rl, (∀ j u, (encDc q.1)[j]? = some u → W.cell? ((ad.add (i * 3)).add j) = some u) ∧ DtI W q.1 q.2.1 q.2.2 := fun i hil => by
      obtain ⟨cs', h1, h2⟩ := hi i (by omega)
      rw [hcN] at h1
      obtain ⟨_, hlen, hcell⟩ := World.cells?_some h1
      obtain ⟨q, rfl, h3⟩ := dat_in h2
      refine ⟨q, fun j u hu => ?_, h3⟩
      have hj : j < 3 := by have := (List.getElem?_eq_some_iff.1 hu).1; simpa [encDc] using this
      rw [hcell j hj]; exact hu
    obtain ⟨q, hq⟩ := choose_lt each
    exact ⟨some ad, len, c, q, hcs, wd_of (fun x => by simp [encDc]) hl hm (fun i => (q i).1) (fun i hi => (hq i hi).1), fun i hi => (hq i hi).2⟩

theorem ob_in {cs : List Value} (h : DataW.trod enc Try.prog W 0 (fun _ => true) held fuel 82 cs = some x) :
    ∃ q : Oj × (Nat → By.Fn) × (Nat → List Int) × (Nat → List By.Rl), cs = encOj q.1 ∧ ObI W q.1 q.2.1 q.2.2.1 q.2.2.2 := by
  have hk1 : Try.prog.cellsOf 78 = 1 := by kernel_rfl
  have hk2 : Try.prog.cellsOf 79 = 1 := by kernel_rfl
  have hk3 : Try.prog.cellsOf 80 = 1 := by kernel_rfl
  have hcN : Try.prog.cellsOf 82 = 3 := by kernel_rfl
  obtain ⟨xs, k, _, _, hlen, hxl, hf⟩ := DataW.trod_struct Try.underlying82 h
  rw [hcN] at hlen
  match xs, hxl, cs, hlen with
  | [z0, z1, z2], _, [v0, v1, v2], _ =>
    have g0 := hf 0 _ rfl
    have g1 := hf 1 _ rfl
    have g2 := hf 2 _ rfl
    simp [hk1, hk2, hk3] at g0 g1 g2
    obtain ⟨A, n, c, l, rfl, h0, h0'⟩ := syms_in g0
    obtain ⟨A1, n1, c1, q1, rfl, h1, h1'⟩ := funs_in g1
    obtain ⟨A2, n2, c2, q2, rfl, h2, h2'⟩ := dats_in g2
    refine ⟨(⟨A, n, c, l, A1, n1, c1, (List.range n1).map fun i => (q1 i).1, A2, n2, c2, (List.range n2).map fun i => (q2 i).1⟩, fun i => (q1 i).2, fun i => (q2 i).2.1, fun i => (q2 i).2.2), rfl, ⟨h0, h1, h2⟩, fun k => ?_, fun k hk => ?_, fun k hk => ?_⟩
    · dsimp only
      by_cases hk : k < l.length
      · exact bounds_i64 (h0' _ (List.mem_of_getElem? (syAt_some hk)))
      · have e : syAt l k = (⟨#[]⟩, false, 0, 0, 0) := by unfold syAt; rw [List.getD_eq_getElem?_getD, List.getElem?_eq_none (by omega)]; rfl
        rw [e]; decide
    · dsimp only at hk ⊢
      rw [fcAt_map _ hk]; exact h1' k hk
    · dsimp only at hk ⊢
      rw [dcAt_map _ hk]; exact h2' k hk

/-- FILES THAT CAME IN. -/
theorem ojs_of {a : Option Addr} {len cap : Nat} (h : DataW.trod enc Try.prog W 0 (fun _ => true) held fuel 22 [.slice a len cap] = some x) : ∃ os xs ws rs, OjsI W a len cap os xs ws rs := by
  rcases open_slice Try.underlying22 h with ⟨hcs, _⟩ | ⟨ad, l, c, m, n, D, Pl, hcs, _, hl, hm, hmm, _, hi⟩
  · simp only [List.cons.injEq, Value.slice.injEq, and_true] at hcs
    obtain ⟨rfl, rfl, rfl⟩ := hcs
    exact ⟨[], fun _ _ => default, fun _ _ => [], fun _ _ => [], ⟨Wd.nil, fun i hi => by omega⟩, fun i hi => by omega⟩
  · simp only [List.cons.injEq, Value.slice.injEq, and_true] at hcs
    obtain ⟨rfl, rfl, rfl⟩ := hcs
    have hlm : len ≤ m := by rw [hmm]; split <;> omega
    have hcN : Try.prog.cellsOf 82 = 3 := by kernel_rfl
    have each : ∀ i, i < len → ∃ q : Oj × (Nat → By.Fn) × (Nat → List Int) × (Nat → List By.Rl), (∀ j u, (encOj q.1)[j]? = some u → W.cell? ((ad.add (i * 3)).add j) = some u) ∧ ObI W q.1 q.2.1 q.2.2.1 q.2.2.2 := fun i hil => by
      obtain ⟨cs', h1, h2⟩ := hi i (by omega)
      rw [hcN] at h1
      obtain ⟨_, hlen, hcell⟩ := World.cells?_some h1
      obtain ⟨q, rfl, h3⟩ := ob_in h2
      refine ⟨q, fun j u hu => ?_, h3⟩
      have hj : j < 3 := by have := (List.getElem?_eq_some_iff.1 hu).1; simpa [encOj] using this
      rw [hcell j hj]; exact hu
    obtain ⟨q, hq⟩ := choose_lt each
    have hat : ∀ i, i < len → ojAt ((List.range len).map fun i => (q i).1) i = (q i).1 := fun i hi => ojAt_map _ hi
    exact ⟨(List.range len).map fun i => (q i).1, fun i => (q i).2.1, fun i => (q i).2.2.1, fun i => (q i).2.2.2, ⟨wd_of (fun x => by simp [encOj]) hl hm (fun i => (q i).1) (fun i hi => (hq i hi).1), fun i hi => by rw [hat i hi]; exact (hq i hi).2.mem⟩, fun i hi => by rw [hat i hi]; exact (hq i hi).2⟩
end
end Go.Proofs.Ytbcabomblfehlab.Bo
