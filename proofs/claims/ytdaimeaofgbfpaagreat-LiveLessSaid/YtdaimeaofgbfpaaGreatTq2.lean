/-
 Tb2 Tc2 Tq2
-/
import Derived.Test.YtdaimeaofgbfpaaGreatZa2
import Derived.Test.YtdaimeaofgbfpaaGreatTa2
import Derived.Test.YtdaimeaofgbfpaaGreatQj2
import Derived.Deep.Matrix
import Derived.Deep.Slices
import Derived.ChangeSame
import Derived.ChangeOld
import Derived.ChangeShapes
import Derived.ChangeArms
import Derived.OpenShut
import Derived.Laws.OwnMore
import Derived.OneCell
set_option linter.unusedSimpArgs false
set_option linter.unusedVariables false
namespace Go.Proofs.YtdaimeaofgbfpaaGreat.By
open Go.Maps Go.Deep Go.ChangeShapes Go.WideShapes Go.ChangeAt Go.RowKit
open Mem Rf
set_option maxRecDepth 100000
theorem wd_of {α : Type} {k : Nat} {enc : α → List Value} {W : World} {ad : Addr} {len cap : Nat} (hk : ∀ x, 0 < (enc x).length) (hl : len ≤ cap) (hm : cap ≤ maxLen) (q : Nat → α) (hq : ∀ i, i < len → ∀ j u, (enc (q i))[j]? = some u → W.cell? ((ad.add (i * k)).add j) = some u) : Wd k enc W W.heap.size (some ad) len cap ((List.range len).map q) := by
 refine ⟨by simp, hl, hm, fun e => by simp at e, fun i x hi => ?_⟩
 have hil : i < len := by have := (List.getElem?_eq_some_iff.1 hi).1; simpa using this
 rw [List.getElem?_map, List.getElem?_range hil] at hi
 injection hi with hi
 subst hi
 refine ⟨ad, rfl, ?_, hq i hil⟩
 have h0 := hq i hil 0 _ (List.getElem?_eq_getElem (hk (q i)))
 have := World.block_lt_of_cell? W _ h0
 rw [add_block, add_block] at this
 exact this
theorem ints_slv {W : World} {ad : Addr} {L C : Nat} (l : List Int) (hl : l.length = L) (hc : L ≤ C) (hm : C ≤ maxLen) (h : ∀ j, j < L → W.cell? (ad.add j) = some (.int .i64 (l.getD j 0))) : IW W (.slice (some ad) L C) l := by
 subst hl
 have hlen : (ints l).length = l.length := by simp [ints]
 have : SlV W W.heap.size (.slice (some ad) (ints l).length C) (ints l) := .at_ ad C _ (by rw [hlen]; exact hc) hm (Row.here fun j u hu => by
  have hj : j < l.length := by
   have := (List.getElem?_eq_some_iff.1 hu).1
   rwa [hlen] at this
  rw [ints_at hj] at hu
  rw [h j hj, ← hu]; rfl)
 rwa [hlen] at this
section
variable {H : Type} {enc : TypeId × Value → H} {W : World} {fuel : Nat} {held : Bool} {a : Option Addr} {len cap : Nat} {x : DataW H × List MemPlace}
theorem ints_of (h : DataW.trod enc Tryz.prog W 0 (fun _ => true) held fuel 82 [.slice a len cap] = some x) : ∃ l : List Int, l.length = len ∧ IW W (.slice a len cap) l := by
 rcases Go.ChangeShapes.open_ints (k := .i64) Tryz.underlying82 Tryz.underlying2 (by kernel_rfl) h with ⟨h1, _⟩ | ⟨ad, len', cap', zs, h1, _, hl, hm, hz, _, hc, _⟩
 ·rw [List.cons.injEq, Value.slice.injEq] at h1
  obtain ⟨⟨rfl, rfl, rfl⟩, _⟩ := h1
  exact ⟨[], rfl, .nil⟩
 ·rw [List.cons.injEq, Value.slice.injEq] at h1
  obtain ⟨⟨rfl, rfl, rfl⟩, _⟩ := h1
  simp only [if_true] at hz
  refine ⟨zs.take len, by rw [List.length_take]; omega, ints_slv _ (by rw [List.length_take]; omega) hl hm fun j hj => ?_⟩
  rw [hc j (by omega), List.getD_eq_getElem?_getD, List.getD_eq_getElem?_getD, List.getElem?_take, if_pos hj]
set_option maxRecDepth 100000 in
theorem relocs_of (h : DataW.trod enc Tryz.prog W 0 (fun _ => true) held fuel 47 [.slice a len cap] = some x) : ∃ l : List Rl, l.length = len ∧ RlL W a len cap l := by
 rcases open_slice Tryz.underlying47 h with ⟨hcs, _⟩ | ⟨ad, l, c, m, n, D, Pl, hcs, _, hl, hm, hmm, _, hi⟩
 ·simp only [List.cons.injEq, Value.slice.injEq, and_true] at hcs
  obtain ⟨rfl, rfl, rfl⟩ := hcs
  exact ⟨[], rfl, Wd.nil⟩
 ·simp only [List.cons.injEq, Value.slice.injEq, and_true] at hcs
  obtain ⟨rfl, rfl, rfl⟩ := hcs
  have hlm : len ≤ m := by rw [hmm]; split <;> omega
  have hcN : Tryz.prog.cellsOf 114 = 3 := by kernel_rfl
  have hc3 : Tryz.prog.cellsOf 3 = 1 := by kernel_rfl
  have hc4 : Tryz.prog.cellsOf 4 = 1 := by kernel_rfl
  have hc9 : Tryz.prog.cellsOf 9 = 1 := by kernel_rfl
  have each : ∀ i, i < len → ∃ q : Rl, ∀ j u, (encRl q)[j]? = some u → W.cell? ((ad.add (i * 3)).add j) = some u := fun i hil => by
   obtain ⟨cs', h1, h2⟩ := hi i (by omega)
   rw [hcN] at h1
   obtain ⟨_, hlen, hcell⟩ := World.cells?_some h1
   obtain ⟨xs, k, _, _, _, hxl, hf⟩ := DataW.trod_struct Tryz.underlying114 h2
   match xs, hxl, cs', hlen with
   | [z0, z1, z2], _, [v0, v1, v2], _ =>
    have g0 := hf 0 _ rfl
    have g1 := hf 1 _ rfl
    have g2 := hf 2 _ rfl
    simp [hc3, hc4, hc9] at g0 g1 g2
    obtain ⟨a0, e0, _, w0⟩ := DataW.trod_int Tryz.underlying3 g0
    obtain ⟨a1, e1, _, w1⟩ := DataW.trod_int Tryz.underlying3 g1
    obtain ⟨a2, e2, _⟩ := DataW.trod_bool Tryz.underlying4 g2
    simp only [List.cons.injEq, and_true] at e0 e1 e2
    subst e0 e1 e2
    refine ⟨(a0, a1, a2), fun j u hu => ?_⟩
    have hj : j < 3 := by have := (List.getElem?_eq_some_iff.1 hu).1; simpa [encRl] using this
    have f := hcell j (by simpa using hj)
    match j, hj with
    | 0, _ => rw [f]; simpa [encRl] using hu
    | 1, _ => rw [f]; simpa [encRl] using hu
    | 2, _ => rw [f]; simpa [encRl] using hu
  obtain ⟨q, hq⟩ := choose_lt each
  exact ⟨(List.range len).map q, by simp, wd_of (fun x => by simp [encRl]) hl hm q hq⟩
theorem kinds_bd (h : DataW.trod enc Tryz.prog W 0 (fun _ => true) held fuel 44 [.slice a len cap] = some x) : ∃ l : List Int, l.length = len ∧ IW W (.slice a len cap) l ∧ ∀ n ∈ l, (Lit.int .i64 n).wf = true := by
 rcases Go.ChangeShapes.open_ints (k := .i64) Tryz.underlying44 Tryz.underlying3 (by kernel_rfl) h with ⟨h1, _⟩ | ⟨ad, len', cap', zs, h1, _, hl, hm, hz, _, hc, hwz⟩
 ·rw [List.cons.injEq, Value.slice.injEq] at h1
  obtain ⟨⟨rfl, rfl, rfl⟩, _⟩ := h1
  exact ⟨[], rfl, .nil, fun n hn => absurd hn (by simp)⟩
 ·rw [List.cons.injEq, Value.slice.injEq] at h1
  obtain ⟨⟨rfl, rfl, rfl⟩, _⟩ := h1
  simp only [if_true] at hz
  refine ⟨zs.take len, by rw [List.length_take]; omega, ints_slv _ (by rw [List.length_take]; omega) hl hm fun j hj => ?_, fun n hn => hwz n (List.mem_of_mem_take hn)⟩
  rw [hc j (by omega), List.getD_eq_getElem?_getD, List.getD_eq_getElem?_getD, List.getElem?_take, if_pos hj]
set_option maxRecDepth 100000 in
theorem lines_of (h : DataW.trod enc Tryz.prog W 0 (fun _ => true) held fuel 45 [.slice a len cap] = some x) : ∃ l : List Ln, l.length = len ∧ LnL W a len cap l := by
 rcases open_slice Tryz.underlying45 h with ⟨hcs, _⟩ | ⟨ad, l, c, m, n, D, Pl, hcs, _, hl, hm, hmm, _, hi⟩
 ·simp only [List.cons.injEq, Value.slice.injEq, and_true] at hcs
  obtain ⟨rfl, rfl, rfl⟩ := hcs
  exact ⟨[], rfl, Wd.nil⟩
 ·simp only [List.cons.injEq, Value.slice.injEq, and_true] at hcs
  obtain ⟨rfl, rfl, rfl⟩ := hcs
  have hlm : len ≤ m := by rw [hmm]; split <;> omega
  have hcN : Tryz.prog.cellsOf 237 = 2 := by kernel_rfl
  have hc3 : Tryz.prog.cellsOf 3 = 1 := by kernel_rfl
  have hc4 : Tryz.prog.cellsOf 4 = 1 := by kernel_rfl
  have hc9 : Tryz.prog.cellsOf 9 = 1 := by kernel_rfl
  have each : ∀ i, i < len → ∃ q : Ln, ∀ j u, (encLn q)[j]? = some u → W.cell? ((ad.add (i * 2)).add j) = some u := fun i hil => by
   obtain ⟨cs', h1, h2⟩ := hi i (by omega)
   rw [hcN] at h1
   obtain ⟨_, hlen, hcell⟩ := World.cells?_some h1
   obtain ⟨xs, k, _, _, _, hxl, hf⟩ := DataW.trod_struct Tryz.underlying237 h2
   match xs, hxl, cs', hlen with
   | [z0, z1], _, [v0, v1], _ =>
    have g0 := hf 0 _ rfl
    have g1 := hf 1 _ rfl
    simp [hc3, hc4, hc9] at g0 g1
    obtain ⟨a0, e0, _, w0⟩ := DataW.trod_int Tryz.underlying3 g0
    obtain ⟨a1, e1, _, w1⟩ := DataW.trod_int Tryz.underlying3 g1
    simp only [List.cons.injEq, and_true] at e0 e1
    subst e0 e1
    refine ⟨(a0, a1), fun j u hu => ?_⟩
    have hj : j < 2 := by have := (List.getElem?_eq_some_iff.1 hu).1; simpa [encLn] using this
    have f := hcell j (by simpa using hj)
    match j, hj with
    | 0, _ => rw [f]; simpa [encLn] using hu
    | 1, _ => rw [f]; simpa [encLn] using hu
  obtain ⟨q, hq⟩ := choose_lt each
  exact ⟨(List.range len).map q, by simp, wd_of (fun x => by simp [encLn]) hl hm q hq⟩
set_option maxRecDepth 100000 in
theorem code_bd (h : DataW.trod enc Tryz.prog W 0 (fun _ => true) held fuel 46 [.slice a len cap] = some x) : ∃ l : List In5, l.length = len ∧ InL W a len cap l ∧ ∀ y ∈ l, (Lit.int .i64 y.1).wf = true := by
 rcases open_slice Tryz.underlying46 h with ⟨hcs, _⟩ | ⟨ad, l, c, m, n, D, Pl, hcs, _, hl, hm, hmm, _, hi⟩
 ·simp only [List.cons.injEq, Value.slice.injEq, and_true] at hcs
  obtain ⟨rfl, rfl, rfl⟩ := hcs
  exact ⟨[], rfl, Wd.nil, fun y hy => absurd hy (by simp)⟩
 ·simp only [List.cons.injEq, Value.slice.injEq, and_true] at hcs
  obtain ⟨rfl, rfl, rfl⟩ := hcs
  have hlm : len ≤ m := by rw [hmm]; split <;> omega
  have hcN : Tryz.prog.cellsOf 53 = 5 := by kernel_rfl
  have hc3 : Tryz.prog.cellsOf 3 = 1 := by kernel_rfl
  have hc4 : Tryz.prog.cellsOf 4 = 1 := by kernel_rfl
  have hc2 : Tryz.prog.cellsOf 2 = 1 := by kernel_rfl
  have hc9 : Tryz.prog.cellsOf 9 = 1 := by kernel_rfl
  have each : ∀ i, i < len → ∃ q : In5, (∀ j u, (encIn q)[j]? = some u → W.cell? ((ad.add (i * 5)).add j) = some u) ∧ (Lit.int .i64 q.1).wf = true := fun i hil => by
   obtain ⟨cs', h1, h2⟩ := hi i (by omega)
   rw [hcN] at h1
   obtain ⟨_, hlen, hcell⟩ := World.cells?_some h1
   obtain ⟨xs, k, _, _, _, hxl, hf⟩ := DataW.trod_struct Tryz.underlying53 h2
   match xs, hxl, cs', hlen with
   | [z0, z1, z2, z3, z4], _, [v0, v1, v2, v3, v4], _ =>
    have g0 := hf 0 _ rfl
    have g1 := hf 1 _ rfl
    have g2 := hf 2 _ rfl
    have g3 := hf 3 _ rfl
    have g4 := hf 4 _ rfl
    simp [hc2, hc3, hc4, hc9] at g0 g1 g2 g3 g4
    obtain ⟨a0, e0, _, w0⟩ := DataW.trod_int Tryz.underlying3 g0
    obtain ⟨a1, e1, _, w1⟩ := DataW.trod_int Tryz.underlying3 g1
    obtain ⟨a2, e2, _, w2⟩ := DataW.trod_int Tryz.underlying3 g2
    obtain ⟨a3, e3, _, w3⟩ := DataW.trod_int Tryz.underlying3 g3
    obtain ⟨a4, e4, _, w4⟩ := DataW.trod_int Tryz.underlying2 g4
    simp only [List.cons.injEq, and_true] at e0 e1 e2 e3 e4
    subst e0 e1 e2 e3 e4
    refine ⟨(a0, a1, a2, a3, a4), fun j u hu => ?_, w0⟩
    have hj : j < 5 := by have := (List.getElem?_eq_some_iff.1 hu).1; simpa [encIn] using this
    have f := hcell j (by simpa using hj)
    match j, hj with
    | 0, _ => rw [f]; simpa [encIn] using hu
    | 1, _ => rw [f]; simpa [encIn] using hu
    | 2, _ => rw [f]; simpa [encIn] using hu
    | 3, _ => rw [f]; simpa [encIn] using hu
    | 4, _ => rw [f]; simpa [encIn] using hu
  obtain ⟨q, hq⟩ := choose_lt each
  exact ⟨(List.range len).map q, by simp, wd_of (fun x => by simp [encIn]) hl hm q (fun i hi => (hq i hi).1), fun y hy => by
   obtain ⟨i, hi, rfl⟩ := List.mem_map.1 hy
   exact (hq i (List.mem_range.1 hi)).2⟩
end
section
variable {H : Type} {enc : TypeId × Value → H} {W : World} {fuel : Nat} {held : Bool} {x : DataW H × List MemPlace}
theorem sl_form {t e : TypeId} {v : Value} (ht : Tryz.prog.underlying t = some (.slice e)) (h : DataW.trod enc Tryz.prog W 0 (fun _ => true) held fuel t [v] = some x) : ∃ a len cap, v = .slice a len cap := by
 rcases open_slice ht h with ⟨hcs, _⟩ | ⟨ad, l, c, m, n, D, Pl, hcs, _, hl, hm, hmm, _, hi⟩
 ·simp only [List.cons.injEq, and_true] at hcs
  exact ⟨none, 0, 0, hcs⟩
 ·simp only [List.cons.injEq, and_true] at hcs
  exact ⟨some ad, l, c, hcs⟩
end
end Go.Proofs.YtdaimeaofgbfpaaGreat.By
namespace Go.Proofs.YtdaimeaofgbfpaaGreat.Bo
open Go.Maps Go.Deep Go.ChangeShapes Go.WideShapes Go.ChangeAt Go.RowKit
open Mem Rf
set_option maxRecDepth 100000
structure FnI (w : World) (F : Fc) (x : By.Fn) : Prop where
 fw : By.FnW w F.kinds.1 F.kinds.2.1 F.kinds.2.2 F.lines.1 F.lines.2.1 F.lines.2.2 F.code.1 F.code.2.1 F.code.2.2 F.rel.1 F.rel.2.1 F.rel.2.2 x
 hk : x.k = F.cl
 hpd : x.pd = F.pad
 hns : x.ns = F.no
 hf : x.f = F.f
 ht : x.t = F.t
 bd : (∀ z ∈ x.ks, -9223372036854775808 ≤ z ∧ z ≤ 9223372036854775807) ∧ ∀ k, k < x.cs.length → -9223372036854775808 ≤ (By.inAt x.cs k).1 ∧ (By.inAt x.cs k).1 ≤ 9223372036854775807
 wf : (Lit.int .i64 F.cl).wf = true ∧ (Lit.int .i64 F.pad).wf = true ∧ (Lit.int .i64 F.f).wf = true ∧ (Lit.int .i64 F.t).wf = true
structure DtI (w : World) (D : Dc) (ws : List Int) (rs : List By.Rl) : Prop where
 hw : By.IW w (.slice D.words.1 D.words.2.1 D.words.2.2) ws
 hl : ws.length = D.words.2.1
 hr : By.RlL w D.rel.1 D.rel.2.1 D.rel.2.2 rs
 bd : -9223372036854775808 ≤ D.kd ∧ D.kd ≤ 9223372036854775807
theorem FnI.ok {w : World} {F : Fc} {x : By.Fn} (h : FnI w F x) (hl : ltF F) : FnOk w F x := ⟨h.fw, h.hk, h.hpd, h.hns, h.hf, h.ht, hl, h.bd⟩
theorem DtI.ok {w : World} {D : Dc} {ws : List Int} {rs : List By.Rl} (h : DtI w D ws rs) (hl : ltD D) : DtOk w D ws rs := ⟨h.hw, h.hl, h.hr, hl, h.bd⟩
theorem wd_few {α : Type} {k : Nat} {enc : α → List Value} {w : World} {B n c : Nat} {A : Option Addr} {l : List α} (h : By.Wd k enc w B A n c l) : n ≤ 9223372036854775807 := by
 have h1 := h.2.1
 have h2 := h.2.2.1
 unfold maxLen at h2; omega
theorem iw_few {w : World} {A : Option Addr} {n c : Nat} {l : List Int} (h : By.IW w (.slice A n c) l) : n ≤ 9223372036854775807 := by
 rcases SlV.inv h with ⟨_, h, _⟩ | ⟨_, _, _, h3, h4, _⟩
 ·omega
 ·unfold maxLen at h4; omega
theorem FnI.few {w : World} {F : Fc} {x : By.Fn} (h : FnI w F x) : okF F := ⟨iw_few h.fw.hk, wd_few h.fw.hl, wd_few h.fw.hc, wd_few h.fw.hr⟩
theorem DtI.few {w : World} {D : Dc} {ws : List Int} {rs : List By.Rl} (h : DtI w D ws rs) : okD D := ⟨iw_few h.hw, wd_few h.hr⟩
structure ObI (w : World) (o : Oj) (xs : Nat → By.Fn) (ws : Nat → List Int) (rs : Nat → List By.Rl) : Prop where
 mem : OjL w o
 kinds : ∀ k, -9223372036854775808 ≤ (syAt o.l k).2.2.2.1 ∧ (syAt o.l k).2.2.2.1 ≤ 9223372036854775807
 fns : ∀ k, k < o.fn → FnI w (fcAt o.fl k) (xs k)
 dats : ∀ k, k < o.dn → DtI w (dcAt o.dl k) (ws k) (rs k)
structure OjsI (w : World) (A : Option Addr) (n c : Nat) (os : List Oj) (xs : Nat → Nat → By.Fn) (ws : Nat → Nat → List Int) (rs : Nat → Nat → List By.Rl) : Prop where
 mem : OjsL w A n c os
 each : ∀ i, i < n → ObI w (ojAt os i) (xs i) (ws i) (rs i)
theorem OjsI.ok {w : World} {A : Option Addr} {n c : Nat} {os : List Oj} {xs : Nat → Nat → By.Fn} {ws : Nat → Nat → List Int} {rs : Nat → Nat → List By.Rl} (h : OjsI w A n c os xs ws rs) (hf : n ≤ 9 ∧ ∀ i, i < n → ltO (ojAt os i)) : OjsW w A n c os xs ws rs where
 mem := h.mem
 few := ⟨hf.1, fun i hi => (hf.2 i hi).1⟩
 names := fun i hi => (hf.2 i hi).2.1
 kinds := fun i hi => (h.each i hi).kinds
 fns := fun i hi k hk => ((h.each i hi).fns k hk).ok ((hf.2 i hi).2.2.1 k hk)
 dats := fun i hi k hk => ((h.each i hi).dats k hk).ok ((hf.2 i hi).2.2.2 k hk)
theorem few_in {w : World} {A : Option Addr} {n c : Nat} {os : List Oj} {xs : Nat → Nat → By.Fn} {ws : Nat → Nat → List Int} {rs : Nat → Nat → List By.Rl} (h : OjsI w A n c os xs ws rs) :
  Calls Tryz.prog 9 #[.slice A n c] w fun e w' => FewB e (OjsW w A n c os xs ws rs) ∧ Below w.heap.size w w' :=
 (fewL24 w A n c os h.mem (fun i hi k hk => ((h.each i hi).fns k hk).few) (fun i hi k hk => ((h.each i hi).dats k hk).few)).mono fun e w' hh => by
  obtain ⟨⟨b, e1, e2⟩, hb⟩ := hh
  exact ⟨⟨b, e1, fun e => h.ok (e2 e)⟩, hb⟩
instance : Inhabited Fc := ⟨fc0⟩
instance : Inhabited Dc := ⟨dc0⟩
instance : Inhabited Oj := ⟨oj0⟩
instance : Inhabited By.Fn := ⟨⟨0, [], 0, false, 0, 0, [], [], []⟩⟩
theorem fcAt_map {n i : Nat} (q : Nat → Fc) (h : i < n) : fcAt ((List.range n).map q) i = q i := by
 unfold fcAt; rw [List.getD_eq_getElem?_getD, List.getElem?_map, List.getElem?_range h]; rfl
theorem dcAt_map {n i : Nat} (q : Nat → Dc) (h : i < n) : dcAt ((List.range n).map q) i = q i := by
 unfold dcAt; rw [List.getD_eq_getElem?_getD, List.getElem?_map, List.getElem?_range h]; rfl
theorem ojAt_map {n i : Nat} (q : Nat → Oj) (h : i < n) : ojAt ((List.range n).map q) i = q i := by
 unfold ojAt; rw [List.getD_eq_getElem?_getD, List.getElem?_map, List.getElem?_range h]; rfl
section
variable {H : Type} {enc : TypeId × Value → H} {W : World} {fuel : Nat} {held : Bool} {x : DataW H × List MemPlace}
theorem wd_of {α : Type} {k : Nat} {enc : α → List Value} {W : World} {ad : Addr} {len cap : Nat} (hk : ∀ x, 0 < (enc x).length) (hl : len ≤ cap) (hm : cap ≤ maxLen) (q : Nat → α) (hq : ∀ i, i < len → ∀ j u, (enc (q i))[j]? = some u → W.cell? ((ad.add (i * k)).add j) = some u) : Wd k enc W W.heap.size (some ad) len cap ((List.range len).map q) := By.wd_of hk hl hm q hq
theorem syms_in {v : Value} (h : DataW.trod enc Tryz.prog W 0 (fun _ => true) held fuel 67 [v] = some x) : ∃ A n c, ∃ l : List Sy, v = .slice A n c ∧ SyL W A n c l ∧ ∀ y ∈ l, (Lit.int .i64 y.2.2.2.1).wf = true := by
 rcases open_slice Tryz.underlying67 h with ⟨hcs, _⟩ | ⟨ad, len, c, m, n, D, Pl, hcs, _, hl, hm, hmm, _, hi⟩
 ·simp only [List.cons.injEq, and_true] at hcs
  exact ⟨none, 0, 0, [], hcs, Wd.nil, fun y hy => absurd hy (by simp)⟩
 ·simp only [List.cons.injEq, and_true] at hcs
  have hlm : len ≤ m := by rw [hmm]; split <;> omega
  have hcN : Tryz.prog.cellsOf 79 = 5 := by kernel_rfl
  have hc3 : Tryz.prog.cellsOf 3 = 1 := by kernel_rfl
  have hc4 : Tryz.prog.cellsOf 4 = 1 := by kernel_rfl
  have hc9 : Tryz.prog.cellsOf 9 = 1 := by kernel_rfl
  have each : ∀ i, i < len → ∃ q : Sy, (∀ j u, (encSy q)[j]? = some u → W.cell? ((ad.add (i * 5)).add j) = some u) ∧ (Lit.int .i64 q.2.2.2.1).wf = true := fun i hil => by
   obtain ⟨cs', h1, h2⟩ := hi i (by omega)
   rw [hcN] at h1
   obtain ⟨_, hlen, hcell⟩ := World.cells?_some h1
   obtain ⟨xs, k, _, _, _, hxl, hf⟩ := DataW.trod_struct Tryz.underlying79 h2
   match xs, hxl, cs', hlen with
   | [z0, z1, z2, z3, z4], _, [v0, v1, v2, v3, v4], _ =>
    have g0 := hf 0 _ rfl
    have g1 := hf 1 _ rfl
    have g2 := hf 2 _ rfl
    have g3 := hf 3 _ rfl
    have g4 := hf 4 _ rfl
    simp [hc3, hc4, hc9] at g0 g1 g2 g3 g4
    obtain ⟨a0, e0, _, w0⟩ := DataW.trod_string Tryz.underlying9 g0
    obtain ⟨a1, e1, _⟩ := DataW.trod_bool Tryz.underlying4 g1
    obtain ⟨a2, e2, _, w2⟩ := DataW.trod_int Tryz.underlying3 g2
    obtain ⟨a3, e3, _, w3⟩ := DataW.trod_int Tryz.underlying3 g3
    obtain ⟨a4, e4, _, w4⟩ := DataW.trod_int Tryz.underlying3 g4
    simp only [List.cons.injEq, and_true] at e0 e1 e2 e3 e4
    subst e0 e1 e2 e3 e4
    refine ⟨(a0, a1, a2, a3, a4), fun j u hu => ?_, w3⟩
    have hj : j < 5 := by have := (List.getElem?_eq_some_iff.1 hu).1; simpa [encSy] using this
    have f := hcell j (by simpa using hj)
    match j, hj with
    | 0, _ => rw [f]; simpa [encSy] using hu
    | 1, _ => rw [f]; simpa [encSy] using hu
    | 2, _ => rw [f]; simpa [encSy] using hu
    | 3, _ => rw [f]; simpa [encSy] using hu
    | 4, _ => rw [f]; simpa [encSy] using hu
  obtain ⟨q, hq⟩ := choose_lt each
  exact ⟨some ad, len, c, (List.range len).map q, hcs, wd_of (fun x => by simp [encSy]) hl hm q (fun i hi => (hq i hi).1), fun y hy => by
   obtain ⟨i, hi, rfl⟩ := List.mem_map.1 hy
   exact (hq i (List.mem_range.1 hi)).2⟩
theorem fun_in {cs : List Value} (h : DataW.trod enc Tryz.prog W 0 (fun _ => true) held fuel 49 cs = some x) :
  ∃ q : Fc × By.Fn, cs = encFc q.1 ∧ FnI W q.1 q.2 := by
 have hcN : Tryz.prog.cellsOf 49 = 9 := by kernel_rfl
 have hc3 : Tryz.prog.cellsOf 3 = 1 := by kernel_rfl
 have hc4 : Tryz.prog.cellsOf 4 = 1 := by kernel_rfl
 have hk : Tryz.prog.cellsOf 44 = 1 := by kernel_rfl
 have hk1 : Tryz.prog.cellsOf 45 = 1 := by kernel_rfl
 have hk2 : Tryz.prog.cellsOf 46 = 1 := by kernel_rfl
 have hk3 : Tryz.prog.cellsOf 47 = 1 := by kernel_rfl
 obtain ⟨xs, k, _, _, hlen, hxl, hf⟩ := DataW.trod_struct Tryz.underlying49 h
 rw [hcN] at hlen
 match xs, hxl, cs, hlen with
 | [z0, z1, z2, z3, z4, z5, z6, z7, z8], _, [v0, v1, v2, v3, v4, v5, v6, v7, v8], _ =>
  have g0 := hf 0 _ rfl
  have g1 := hf 1 _ rfl
  have g2 := hf 2 _ rfl
  have g3 := hf 3 _ rfl
  have g4 := hf 4 _ rfl
  have g5 := hf 5 _ rfl
  have g6 := hf 6 _ rfl
  have g7 := hf 7 _ rfl
  have g8 := hf 8 _ rfl
  simp [hc3, hc4, hk, hk1, hk2, hk3] at g0 g1 g2 g3 g4 g5 g6 g7 g8
  obtain ⟨a0, e0, _, w0⟩ := DataW.trod_int Tryz.underlying3 g0
  obtain ⟨a1, n1, c1, rfl⟩ := By.sl_form Tryz.underlying44 g1
  obtain ⟨a2, e2, _, w2⟩ := DataW.trod_int Tryz.underlying3 g2
  obtain ⟨a3, e3, _⟩ := DataW.trod_bool Tryz.underlying4 g3
  obtain ⟨a4, e4, _, w4⟩ := DataW.trod_int Tryz.underlying3 g4
  obtain ⟨a5, e5, _, w5⟩ := DataW.trod_int Tryz.underlying3 g5
  obtain ⟨a6, n6, c6, rfl⟩ := By.sl_form Tryz.underlying45 g6
  obtain ⟨a7, n7, c7, rfl⟩ := By.sl_form Tryz.underlying46 g7
  obtain ⟨a8, n8, c8, rfl⟩ := By.sl_form Tryz.underlying47 g8
  simp only [List.cons.injEq, and_true] at e0 e2 e3 e4 e5
  subst e0 e2 e3 e4 e5
  obtain ⟨ks, hk1, hk2, hk3⟩ := By.kinds_bd g1
  obtain ⟨ls, hl1, hl2⟩ := By.lines_of g6
  obtain ⟨cs, hc1, hc2, hc3⟩ := By.code_bd g7
  obtain ⟨rs, hr1, hr2⟩ := By.relocs_of g8
  exact ⟨(⟨a0, (a1, n1, c1), a2, a3, a4, a5, (a6, n6, c6), (a7, n7, c7), (a8, n8, c8)⟩, ⟨a0, ks, a2, a3, a4, a5, ls, cs, rs⟩), rfl, ⟨⟨hk2, hk1, hl2, hc2, hr2⟩, rfl, rfl, rfl, rfl, rfl, ⟨fun n hn => bounds_i64 (hk3 n hn), fun k hk => bounds_i64 (hc3 _ (by
   have e := By.inAt_some (l := cs) hk
   exact List.mem_of_getElem? e))⟩, w0, w2, w4, w5⟩⟩
theorem dat_in {cs : List Value} (h : DataW.trod enc Tryz.prog W 0 (fun _ => true) held fuel 84 cs = some x) :
  ∃ q : Dc × List Int × List By.Rl, cs = encDc q.1 ∧ DtI W q.1 q.2.1 q.2.2 := by
 have hcN : Tryz.prog.cellsOf 84 = 3 := by kernel_rfl
 have hc3 : Tryz.prog.cellsOf 3 = 1 := by kernel_rfl
 have hk2 : Tryz.prog.cellsOf 82 = 1 := by kernel_rfl
 have hk3 : Tryz.prog.cellsOf 47 = 1 := by kernel_rfl
 obtain ⟨xs, k, _, _, hlen, hxl, hf⟩ := DataW.trod_struct Tryz.underlying84 h
 rw [hcN] at hlen
 match xs, hxl, cs, hlen with
 | [z0, z1, z2], _, [v0, v1, v2], _ =>
  have g0 := hf 0 _ rfl
  have g1 := hf 1 _ rfl
  have g2 := hf 2 _ rfl
  simp [hc3, hk2, hk3] at g0 g1 g2
  obtain ⟨a0, e0, _, w0⟩ := DataW.trod_int Tryz.underlying3 g0
  obtain ⟨a1, n1, c1, rfl⟩ := By.sl_form Tryz.underlying82 g1
  obtain ⟨a2, n2, c2, rfl⟩ := By.sl_form Tryz.underlying47 g2
  simp only [List.cons.injEq, and_true] at e0
  subst e0
  obtain ⟨ws, hw1, hw2⟩ := By.ints_of g1
  obtain ⟨rs, hr1, hr2⟩ := By.relocs_of g2
  exact ⟨(⟨a0, (a1, n1, c1), (a2, n2, c2)⟩, ws, rs), rfl, ⟨hw2, hw1, hr2, bounds_i64 w0⟩⟩
theorem funs_in {v : Value} (h : DataW.trod enc Tryz.prog W 0 (fun _ => true) held fuel 68 [v] = some x) : ∃ A n c, ∃ q : Nat → Fc × By.Fn, v = .slice A n c ∧ Wd 9 encFc W W.heap.size A n c ((List.range n).map fun i => (q i).1) ∧ ∀ i, i < n → FnI W (q i).1 (q i).2 := by
 rcases open_slice Tryz.underlying68 h with ⟨hcs, _⟩ | ⟨ad, len, c, m, n, D, Pl, hcs, _, hl, hm, hmm, _, hi⟩
 ·simp only [List.cons.injEq, and_true] at hcs
  exact ⟨none, 0, 0, fun _ => default, hcs, Wd.nil, fun i hi => absurd hi (by omega)⟩
 ·simp only [List.cons.injEq, and_true] at hcs
  have hlm : len ≤ m := by rw [hmm]; split <;> omega
  have hcN : Tryz.prog.cellsOf 49 = 9 := by kernel_rfl
  have each : ∀ i, i < len → ∃ q : Fc × By.Fn, (∀ j u, (encFc q.1)[j]? = some u → W.cell? ((ad.add (i * 9)).add j) = some u) ∧ FnI W q.1 q.2 := fun i hil => by
   obtain ⟨cs', h1, h2⟩ := hi i (by omega)
   rw [hcN] at h1
   obtain ⟨_, hlen, hcell⟩ := World.cells?_some h1
   obtain ⟨q, rfl, h3⟩ := fun_in h2
   refine ⟨q, fun j u hu => ?_, h3⟩
   have hj : j < 9 := by have := (List.getElem?_eq_some_iff.1 hu).1; simpa [encFc] using this
   rw [hcell j hj]; exact hu
  obtain ⟨q, hq⟩ := choose_lt each
  exact ⟨some ad, len, c, q, hcs, wd_of (fun x => by simp [encFc]) hl hm (fun i => (q i).1) (fun i hi => (hq i hi).1), fun i hi => (hq i hi).2⟩
theorem dats_in {v : Value} (h : DataW.trod enc Tryz.prog W 0 (fun _ => true) held fuel 69 [v] = some x) : ∃ A n c, ∃ q : Nat → Dc × List Int × List By.Rl, v = .slice A n c ∧ Wd 3 encDc W W.heap.size A n c ((List.range n).map fun i => (q i).1) ∧ ∀ i, i < n → DtI W (q i).1 (q i).2.1 (q i).2.2 := by
 rcases open_slice Tryz.underlying69 h with ⟨hcs, _⟩ | ⟨ad, len, c, m, n, D, Pl, hcs, _, hl, hm, hmm, _, hi⟩
 ·simp only [List.cons.injEq, and_true] at hcs
  exact ⟨none, 0, 0, fun _ => default, hcs, Wd.nil, fun i hi => absurd hi (by omega)⟩
 ·simp only [List.cons.injEq, and_true] at hcs
  have hlm : len ≤ m := by rw [hmm]; split <;> omega
  have hcN : Tryz.prog.cellsOf 84 = 3 := by kernel_rfl
  have each : ∀ i, i < len → ∃ q : Dc × List Int × List By.Rl, (∀ j u, (encDc q.1)[j]? = some u → W.cell? ((ad.add (i * 3)).add j) = some u) ∧ DtI W q.1 q.2.1 q.2.2 := fun i hil => by
   obtain ⟨cs', h1, h2⟩ := hi i (by omega)
   rw [hcN] at h1
   obtain ⟨_, hlen, hcell⟩ := World.cells?_some h1
   obtain ⟨q, rfl, h3⟩ := dat_in h2
   refine ⟨q, fun j u hu => ?_, h3⟩
   have hj : j < 3 := by have := (List.getElem?_eq_some_iff.1 hu).1; simpa [encDc] using this
   rw [hcell j hj]; exact hu
  obtain ⟨q, hq⟩ := choose_lt each
  exact ⟨some ad, len, c, q, hcs, wd_of (fun x => by simp [encDc]) hl hm (fun i => (q i).1) (fun i hi => (hq i hi).1), fun i hi => (hq i hi).2⟩
theorem ob_in {cs : List Value} (h : DataW.trod enc Tryz.prog W 0 (fun _ => true) held fuel 71 cs = some x) :
  ∃ q : Oj × (Nat → By.Fn) × (Nat → List Int) × (Nat → List By.Rl), cs = encOj q.1 ∧ ObI W q.1 q.2.1 q.2.2.1 q.2.2.2 := by
 have hk1 : Tryz.prog.cellsOf 67 = 1 := by kernel_rfl
 have hk2 : Tryz.prog.cellsOf 68 = 1 := by kernel_rfl
 have hk3 : Tryz.prog.cellsOf 69 = 1 := by kernel_rfl
 have hcN : Tryz.prog.cellsOf 71 = 3 := by kernel_rfl
 obtain ⟨xs, k, _, _, hlen, hxl, hf⟩ := DataW.trod_struct Tryz.underlying71 h
 rw [hcN] at hlen
 match xs, hxl, cs, hlen with
 | [z0, z1, z2], _, [v0, v1, v2], _ =>
  have g0 := hf 0 _ rfl
  have g1 := hf 1 _ rfl
  have g2 := hf 2 _ rfl
  simp [hk1, hk2, hk3] at g0 g1 g2
  obtain ⟨A, n, c, l, rfl, h0, h0'⟩ := syms_in g0
  obtain ⟨A1, n1, c1, q1, rfl, h1, h1'⟩ := funs_in g1
  obtain ⟨A2, n2, c2, q2, rfl, h2, h2'⟩ := dats_in g2
  refine ⟨(⟨A, n, c, l, A1, n1, c1, (List.range n1).map fun i => (q1 i).1, A2, n2, c2, (List.range n2).map fun i => (q2 i).1⟩, fun i => (q1 i).2, fun i => (q2 i).2.1, fun i => (q2 i).2.2), rfl, ⟨h0, h1, h2⟩, fun k => ?_, fun k hk => ?_, fun k hk => ?_⟩
  ·dsimp only
   by_cases hk : k < l.length
   ·exact bounds_i64 (h0' _ (List.mem_of_getElem? (syAt_some hk)))
   ·have e : syAt l k = (⟨#[]⟩, false, 0, 0, 0) := by unfold syAt; rw [List.getD_eq_getElem?_getD, List.getElem?_eq_none (by omega)]; rfl
    rw [e]; decide
  ·dsimp only at hk ⊢
   rw [fcAt_map _ hk]; exact h1' k hk
  ·dsimp only at hk ⊢
   rw [dcAt_map _ hk]; exact h2' k hk
theorem ojs_of {a : Option Addr} {len cap : Nat} (h : DataW.trod enc Tryz.prog W 0 (fun _ => true) held fuel 22 [.slice a len cap] = some x) : ∃ os xs ws rs, OjsI W a len cap os xs ws rs := by
 rcases open_slice Tryz.underlying22 h with ⟨hcs, _⟩ | ⟨ad, l, c, m, n, D, Pl, hcs, _, hl, hm, hmm, _, hi⟩
 ·simp only [List.cons.injEq, Value.slice.injEq, and_true] at hcs
  obtain ⟨rfl, rfl, rfl⟩ := hcs
  exact ⟨[], fun _ _ => default, fun _ _ => [], fun _ _ => [], ⟨Wd.nil, fun i hi => by omega⟩, fun i hi => by omega⟩
 ·simp only [List.cons.injEq, Value.slice.injEq, and_true] at hcs
  obtain ⟨rfl, rfl, rfl⟩ := hcs
  have hlm : len ≤ m := by rw [hmm]; split <;> omega
  have hcN : Tryz.prog.cellsOf 71 = 3 := by kernel_rfl
  have each : ∀ i, i < len → ∃ q : Oj × (Nat → By.Fn) × (Nat → List Int) × (Nat → List By.Rl), (∀ j u, (encOj q.1)[j]? = some u → W.cell? ((ad.add (i * 3)).add j) = some u) ∧ ObI W q.1 q.2.1 q.2.2.1 q.2.2.2 := fun i hil => by
   obtain ⟨cs', h1, h2⟩ := hi i (by omega)
   rw [hcN] at h1
   obtain ⟨_, hlen, hcell⟩ := World.cells?_some h1
   obtain ⟨q, rfl, h3⟩ := ob_in h2
   refine ⟨q, fun j u hu => ?_, h3⟩
   have hj : j < 3 := by have := (List.getElem?_eq_some_iff.1 hu).1; simpa [encOj] using this
   rw [hcell j hj]; exact hu
  obtain ⟨q, hq⟩ := choose_lt each
  have hat : ∀ i, i < len → ojAt ((List.range len).map fun i => (q i).1) i = (q i).1 := fun i hi => ojAt_map _ hi
  exact ⟨(List.range len).map fun i => (q i).1, fun i => (q i).2.1, fun i => (q i).2.2.1, fun i => (q i).2.2.2, ⟨wd_of (fun x => by simp [encOj]) hl hm (fun i => (q i).1) (fun i hi => (hq i hi).1), fun i hi => by rw [hat i hi]; exact (hq i hi).2.mem⟩, fun i hi => by rw [hat i hi]; exact (hq i hi).2⟩
end
end Go.Proofs.YtdaimeaofgbfpaaGreat.Bo
namespace Go.Proofs.YtdaimeaofgbfpaaGreat.Bo
open Go.RowKit Go.Maps
open Mem Rf
theorem bind_none {os : List Oj} {n : Nat} {ck : Nat → Int × Int} {nm : ByteArray} (h : bindV os n ck nm = none) : ¬ (n = 0 ∨ 6 < n) ∧ (∀ i, i < n → (ck i).1 = 0) ∧ (checkV (symsO os)).1 = 0 ∧ entB (symsO os) nm = true := by
 unfold bindV at h
 split at h
 ·cases h
 ·rename_i h1
  split at h
  ·cases h
  ·rename_i h2
   split at h
   ·cases h
   ·rename_i h3
    split at h
    ·rename_i h4
     refine ⟨h1, fun i hi => ?_, by simpa using h3, h4⟩
     have := List.find?_eq_none.1 h2 i (List.mem_range.2 hi)
     simpa using this
    ·cases h
theorem bind_some {os : List Oj} {n : Nat} {ck : Nat → Int × Int} {nm : ByteArray} {r : Int × Int × Int} (h : bindV os n ck nm = some r) : r.1 ≠ 0 := by
 unfold bindV at h
 split at h
 ·injection h with h; subst h; decide
 ·split at h
  ·rename_i i h2
   injection h with h; subst h
   have := List.find?_some h2
   simpa using this
  ·split at h
   ·rename_i h3
    injection h with h; subst h; exact h3
   ·split at h
    ·cases h
    ·injection h with h; subst h; decide
theorem fpos_in {os : List Oj} {n : Nat} {p : Nat × Nat} (h : p ∈ fpos os n 0) : p.1 < n ∧ p.2 < (ojAt os p.1).fn := by
 unfold fpos at h
 simp only [List.range_zero, List.map_nil, List.append_nil, List.mem_flatMap, List.mem_range, List.mem_map] at h
 obtain ⟨a, ha, b, hb, rfl⟩ := h
 exact ⟨ha, hb⟩
def poAt (ps : List (Nat × Nat)) (a : Nat) : Nat × Nat := ps.getD a (0, 0)
theorem poAt_mem {ps : List (Nat × Nat)} {a : Nat} (h : a < ps.length) : poAt ps a ∈ ps := by
 unfold poAt; rw [List.getD_eq_getElem?_getD, List.getElem?_eq_getElem h]; exact List.getElem_mem h
theorem map_at {α β γ : Type} {f : α → γ} {g : β → γ} {l : List α} {m : List β} (h : l.map f = m.map g) {a : Nat} (ha : a < l.length) (d : α) (e : β) : f (l.getD a d) = g (m.getD a e) := by
 have hl : l.length = m.length := by have := congrArg List.length h; simpa using this
 have h2 : (l.map f)[a]? = (m.map g)[a]? := by rw [h]
 rw [List.getElem?_map, List.getElem?_map, List.getElem?_eq_getElem ha, List.getElem?_eq_getElem (by omega)] at h2
 rw [List.getD_eq_getElem?_getD, List.getD_eq_getElem?_getD, List.getElem?_eq_getElem ha, List.getElem?_eq_getElem (by omega)]
 simpa using h2
theorem FOk.at_ {os : List Oj} {sv : Nat → Nat → Nat → Int} {ps : List (Nat × Nat)} {fs : List Gf} (h : FOk os sv ps fs) {a : Nat} (ha : a < fs.length) :
  (gfAt fs a).file = (poAt ps a).1 ∧ (gfAt fs a).item = (poAt ps a).2 ∧ (gfAt fs a).F = fcAt (ojAt os (poAt ps a).1).fl (poAt ps a).2 ∧ (gfAt fs a).refs = rfF os sv (poAt ps a).1 (poAt ps a).2 := by
 have := map_at h ha gf0 (0, 0)
 unfold tpF at this
 simp only [Prod.mk.injEq] at this
 exact ⟨this.1, this.2.1, this.2.2.2.1, this.2.2.2.2⟩
theorem DOk.at_ {os : List Oj} {dv : Nat → Nat → List Int} {ps : List (Nat × Nat)} {ds : List Gd} (h : DOk os dv ps ds) {a : Nat} (ha : a < ds.length) :
  (gdAt ds a).D = dcAt (ojAt os (poAt ps a).1).dl (poAt ps a).2 ∧ (gdAt ds a).refs = rfD os dv (poAt ps a).1 (poAt ps a).2 := by
 have := map_at h ha gd0 (0, 0)
 unfold tpD at this
 simp only [Prod.mk.injEq] at this
 exact ⟨this.2.2.2.1, this.2.2.2.2⟩
theorem rfF_len (os : List Oj) (sv : Nat → Nat → Nat → Int) (i k : Nat) : (rfF os sv i k).length = (fcAt (ojAt os i).fl k).code.2.1 := by unfold rfF bV; rw [List.length_map, List.length_map, List.length_range]
theorem rfD_len (os : List Oj) (rs : Nat → Nat → List By.Rl) (i k : Nat) : (rfD os (dvO os rs) i k).length = (dcAt (ojAt os i).dl k).words.2.1 := by unfold rfD bV dvO By.rfL; rw [List.length_map, List.length_map, List.length_range]
structure PgL (w : World) (B : Nat) (P : Pgm) : Prop where
 own : PgO B w P.fs P.ds (.slice P.fA P.fn P.fc) (.slice P.dA P.dn P.dc)
 fr : Wd 13 encGf w w.heap.size P.fA P.fn P.fc P.fs
 dr : Wd 7 encGd w w.heap.size P.dA P.dn P.dc P.ds
 code : ∀ a, a < P.fn → By.Wd 5 By.encIn w B (gfAt P.fs a).F.code.1 (gfAt P.fs a).F.code.2.1 (gfAt P.fs a).F.code.2.2 (P.cs a)
 base : B ≤ w.heap.size
 bd : ∀ a, a < P.fn → ∀ k, -9223372036854775808 ≤ (By.inAt (P.cs a) k).1 ∧ (By.inAt (P.cs a) k).1 ≤ 9223372036854775807
 lenF : ∀ a, a < P.fn → (gfAt P.fs a).refs.length = (gfAt P.fs a).F.code.2.1
 lenD : ∀ a, a < P.dn → (gdAt P.ds a).refs.length = (gdAt P.ds a).D.words.2.1
 src : ∀ a, a < P.fn → ∃ (w0 : World) (x : By.Fn), FnOk w0 (gfAt P.fs a).F x
theorem own_slV {w : World} {B : Nat} {R : Sl3} {L : List Int} (h : w.ownsRow B 3 1 (slV R) L.length (L.flatMap encI)) : R.2.1 = L.length ∧ IL w R.1 R.2.1 R.2.2 L := by
 obtain ⟨A, c, e, hi⟩ := own_il h
 obtain ⟨r1, r2, r3⟩ := R
 unfold slV at e
 injection e with e1 e2 e3
 dsimp only at e1 e2 e3 ⊢
 subst e1 e2 e3
 exact ⟨rfl, hi⟩
theorem PgL.rd {w : World} {B : Nat} {P : Pgm} (h : PgL w B P) (hf : (∀ i, i < P.fn → fewG (gfAt P.fs i)) ∧ (∀ i, i < P.dn → fewD (gdAt P.ds i)) ∧ P.fn ≤ 24 ∧ P.dn ≤ 24) : PgR w P where
 fr := h.fr
 dr := h.dr
 fns := fun i hi => by
  obtain ⟨e1, e2⟩ := own_slV (h.own.fref (gfAt P.fs i) (List.mem_of_getElem? (gfAt_some (by rw [h.fr.1]; exact hi))))
  exact ⟨By.Wd.more (h.code i hi) h.base, e2, ⟨(hf.1 i hi).1, (hf.1 i hi).2.1⟩, h.bd i hi⟩
 dats := fun i hi => by
  obtain ⟨e1, e2⟩ := own_slV (h.own.dref (gdAt P.ds i) (List.mem_of_getElem? (gdAt_some (by rw [h.dr.1]; exact hi))))
  exact ⟨e2, (hf.2.1 i hi).1, by rw [e1, h.lenD i hi]; exact Nat.le_refl _⟩
 few := hf.2.2
theorem PgL.on {w w' : World} {B : Nat} {P : Pgm} (h : PgL w B P) (hb : Below w.heap.size w w') : PgL w' B P :=
 ⟨h.own.later hb, (h.fr.below hb).more hb.size, (h.dr.below hb).more hb.size, fun a ha => By.Wd.below (h.code a ha) (hb.mono h.base), Nat.le_trans h.base hb.size, h.bd, h.lenF, h.lenD, h.src⟩
def noP : Pgm := ⟨none, 0, 0, [], none, 0, 0, [], 0, fun _ => []⟩
theorem noP_in (w : World) (B : Nat) (hB : B ≤ w.heap.size) : PgL w B noP := by
 refine ⟨⟨World.ownsRow_nil _ _ _ _, World.ownsRow_nil _ _ _ _, fun g hg => absurd hg (by simp [noP]), fun g hg => absurd hg (by simp [noP]), List.Pairwise.nil, List.Pairwise.nil, fun g hg => absurd hg (by simp [noP])⟩, Wd.nil, Wd.nil, ?_, hB, ?_, ?_, ?_, ?_⟩
 all_goals (intro a ha; exact absurd ha (by simp [noP]))
theorem offs_le (os : List Oj) (s : Int) {i n : Nat} (h : i < n) : offs os s i + mostO (ojAt os i).fn (ojAt os i).dn s ≤ offs os s n := by
 induction n with
 | zero => omega
 | succ m ih =>
  by_cases e : i = m
  ·subst e; exact Nat.le_refl _
  ·have := ih (by omega)
   show _ ≤ offs os s m + _
   omega
section
variable {w w' : World} {A : Option Addr} {n c : Nat} {os : List Oj} {xs : Nat → Nat → By.Fn} {ws : Nat → Nat → List Int} {rs : Nat → Nat → List By.Rl}
theorem entry_in (h : OjsW w A n c os xs ws rs) {nm : ByteArray} (hb : bindV os n (ckO os neV Si.isC Si.kindB (vfO os xs) (rfO os xs) (deO os ws rs)) nm = none) {q : Nat × Nat} (hq : findV (symsO os) nm = some q) :
  0 ≤ numV os q.1 q.2 ∧ numV os q.1 q.2 < (offs os 1 n : Int) := by
 obtain ⟨_, h2, _, h4⟩ := bind_none hb
 obtain ⟨f1, f2, _, f4⟩ := findV_some hq
 have hlo : os.length = n := h.mem.wd.1
 rw [symsO_length, hlo] at f1
 have hg := h.bx.good f1 (h2 _ f1)
 unfold entB at h4
 rw [hq] at h4
 simp only [decide_eq_true_eq] at h4
 have hr : rowS (symsO os) q.1 = (ojAt os q.1).l := rowS_symsO (by omega)
 have hd := hg.df q.2 (by rw [← hr]; exact f2)
 have ea : atS (symsO os) q.1 q.2 = syAt (ojAt os q.1).l q.2 := by unfold atS; rw [hr]
 unfold isG at f4
 simp only [Bool.and_eq_true, decide_eq_true_eq] at f4
 have hbo : boundAt (symsO os) (q.1, q.2) = ((q.1, q.2), 0) := by unfold boundAt; dsimp only; rw [if_pos f4.2]
 unfold numV
 rw [hbo]
 dsimp only
 rw [h4.1]
 rw [ea] at f4 h4 ⊢
 obtain ⟨_, hd2⟩ := hd
 rcases hd2 with hd2 | ⟨hd2, hd3⟩
 ·exact absurd hd2 f4.2
 ·rw [h4.1] at hd3
  have := offs_le os 1 (i := q.1) (n := n) f1
  unfold mostO at this hd3
  rw [if_pos rfl] at this hd3
  have h0 : (0 : Int) ≤ (syAt (ojAt os q.1).l q.2).2.2.2.2 := by rw [hd2]; exact Int.natCast_nonneg _
  omega
set_option maxHeartbeats 1000000 in
theorem bind_in (h : OjsW w A n c os xs ws rs) (nm : ByteArray) :
  Calls Tryz.prog 11 #[.slice A n c, .string nm] w fun e w' => ∃ (P : Pgm) (r1 r2 r3 : Int), e = .returned (.tuple #[pgV P, .agg #[.int .i64 r1, .int .i64 r2, .int .i64 r3]]) ∧ PgL w' w.heap.size P ∧ Below w.heap.size w w' ∧ (r1 = 0 → 0 ≤ P.entry ∧ P.entry < (P.fn : Int)) := by
 refine (bind_doc h nm).mono fun e w' hh => ?_
 cases hb : bindV os n (ckO os neV Si.isC Si.kindB (vfO os xs) (rfO os xs) (deO os ws rs)) nm with
 | some r =>
  rw [hb] at hh
  obtain ⟨e1, e2⟩ := hh
  exact ⟨noP, _, _, _, e1, noP_in _ _ e2.size, e2, fun e => absurd e (bind_some hb)⟩
 | none =>
  rw [hb] at hh
  obtain ⟨fs, ds, v1, v2, q, e1, e2, e3, e4, e5, e6⟩ := hh
  obtain ⟨A1, c1, rfl, g1⟩ := wd_own encGf_len rfl e6.fr
  obtain ⟨A2, c2, rfl, g2⟩ := wd_own encGd_len rfl e6.dr
  have hlf : fs.length = offs os 1 n := by rw [e3.len, fpos_len]; rfl
  have hpl : (fpos os n 0).length = fs.length := e3.len.symm
  have hpd : (dpos os n 0).length = ds.length := e4.len.symm
  have hfn : ∀ a, a < fs.length → FnOk w (gfAt fs a).F (xs (poAt (fpos os n 0) a).1 (poAt (fpos os n 0) a).2) := fun a ha => by
   obtain ⟨k1, k2⟩ := fpos_in (poAt_mem (ps := fpos os n 0) (a := a) (by omega))
   rw [(e3.at_ ha).2.2.1]
   exact h.fns _ k1 _ k2
  refine ⟨⟨A1, fs.length, c1, fs, A2, ds.length, c2, ds, numV os q.1 q.2, fun a => (xs (poAt (fpos os n 0) a).1 (poAt (fpos os n 0) a).2).cs⟩, 0, 0, 0, e1, ⟨e6, g1, g2, fun a ha => ?_, e5.size, fun a ha k => ?_, fun a ha => ?_, fun a ha => ?_, fun a ha => ⟨w, _, hfn a ha⟩⟩, e5, fun _ => ?_⟩
  ·exact By.Wd.below (hfn a ha).fw.hc e5
  ·dsimp only
   by_cases hk : k < (xs (poAt (fpos os n 0) a).1 (poAt (fpos os n 0) a).2).cs.length
   ·exact (hfn a ha).bd.2 k hk
   ·have e : By.inAt (xs (poAt (fpos os n 0) a).1 (poAt (fpos os n 0) a).2).cs k = (0, 0, 0, 0, 0) := by unfold By.inAt; rw [List.getD_eq_getElem?_getD, List.getElem?_eq_none (by omega)]; rfl
    rw [e]; decide
  ·dsimp only at ha ⊢
   rw [(e3.at_ ha).2.2.2, (e3.at_ ha).2.2.1, rfF_len]
  ·dsimp only at ha ⊢
   rw [(e4.at_ ha).2, (e4.at_ ha).1, rfD_len]
  ·dsimp only
   rw [hlf]
   exact entry_in h hb e2
end
theorem own_types {w : World} {B B' n n' k k' : Nat} {E E' : TypeId} {v u : Value} {xs ys : List Value} (h : w.ownsRow B E k v n xs) (h' : w.ownsRow B' E' k' u n' ys) (hE : E ≠ E') {b : Nat} (hb : u.ownBlock = some b) : v.ownBlock ≠ some b := by
 rcases h'.2 with ⟨rfl, _⟩ | ⟨g, cap, cur, rfl, _, hh, _⟩
 ·cases hb
 ·have e : g = b := by simpa [Value.ownBlock] using hb
  subst e
  rcases h.2 with ⟨rfl, _⟩ | ⟨g2, cap2, cur2, rfl, _, hh2, _⟩
  ·intro e; cases e
  ·intro e
   have e2 : g2 = g := by simpa [Value.ownBlock] using e
   subst e2
   rw [hh] at hh2
   injection hh2 with h3
   injection h3 with _ h4 _
   exact hE h4.symm
theorem own_wd {α : Type} {k : Nat} {enc : α → List Value} {w : World} {B n c m : Nat} {e : TypeId} {A : Option Addr} {l : List α} (hk : ∀ x, (enc x).length = k) (hl : l.length = m) (h : w.ownsRow B e k (.slice A n c) m (l.flatMap enc)) : Wd k enc w w.heap.size A n c l := by
 obtain ⟨A', c', e', h'⟩ := wd_own hk hl h
 injection e' with e1 e2 e3
 subst e1 e2 e3
 exact h'
theorem flatI_map (l : List Int) : l.flatMap encI = l.map (Value.int .i64) := by
 induction l with
 | nil => rfl
 | cons a l ih => rw [List.flatMap_cons, ih]; rfl
theorem flatI_set (l : List Int) (b : Nat) (z : Int) : (l.flatMap encI).set b (.int .i64 z) = (l.set b z).flatMap encI := by
 rw [flatI_map, flatI_map, List.map_set]
theorem row_at {w : World} {B : Nat} {R : Sl3} {L : List Int} (h : w.ownsRow B 3 1 (slV R) L.length (L.flatMap encI)) {b : Nat} (hb : b < L.length) (z : Int) :
  ∃ g, R.1 = some ⟨g, 0, none⟩ ∧ B ≤ g ∧ g < w.heap.size ∧ w.cell? ⟨g, b, none⟩ = some (.int .i64 (L.getD b 0)) ∧ w.frozen? ⟨g, b, none⟩ = false ∧ (∀ b' t vs, Blk w b' t vs → t ≠ 3 → b' ≠ g) ∧ (w.setCell ⟨g, b, none⟩ (.int .i64 z)).ownsRow B 3 1 (slV R) (L.set b z).length ((L.set b z).flatMap encI) := by
 obtain ⟨r1, r2, r3⟩ := R
 have h2 := h.2
 unfold slV at h2 h ⊢
 dsimp only at h2 h ⊢
 rcases h2 with ⟨e, hn⟩ | ⟨g, cap, cur, e, hB, hg, _⟩
 ·omega
 ·injection e with e1 e2 e3
  subst e1 e2 e3
  have hs := h.stored b (.int .i64 z)
  rw [flatI_set] at hs
  refine ⟨g, rfl, hB, (h.lt g rfl).2, ?_, h.frozenAt b, fun b' t vs hb' ht e => by
   subst e
   have hb' : w.heap[b']? = some (.cells vs t (0, 0)) := hb'
   rw [hg] at hb'
   injection hb' with h3
   injection h3 with _ h4 _
   exact ht h4.symm, by rw [List.length_set]; exact hs.1⟩
  rw [h.cellAt b (by omega)]
  rw [flatI_map, List.getElem?_map, List.getD_eq_getElem?_getD, List.getElem?_eq_getElem hb]; rfl
def setG (g : Gf) (b : Nat) (z : Int) : Gf := ⟨g.file, g.item, g.nm, g.F, g.R, g.refs.set b z⟩
def setH (g : Gd) (b : Nat) (z : Int) : Gd := ⟨g.file, g.item, g.nm, g.D, g.R, g.refs.set b z⟩
def setF (P : Pgm) (a b : Nat) (z : Int) : Pgm := ⟨P.fA, P.fn, P.fc, P.fs.set a (setG (gfAt P.fs a) b z), P.dA, P.dn, P.dc, P.ds, P.entry, P.cs⟩
def setD (P : Pgm) (a b : Nat) (z : Int) : Pgm := ⟨P.fA, P.fn, P.fc, P.fs, P.dA, P.dn, P.dc, P.ds.set a (setH (gdAt P.ds a) b z), P.entry, P.cs⟩
def setE (P : Pgm) (z : Int) : Pgm := ⟨P.fA, P.fn, P.fc, P.fs, P.dA, P.dn, P.dc, P.ds, z, P.cs⟩
theorem gfAt_set {fs : List Gf} {a : Nat} (g : Gf) (ha : a < fs.length) (i : Nat) : gfAt (fs.set a g) i = if a = i then g else gfAt fs i := by
 unfold gfAt
 rw [List.getD_eq_getElem?_getD, List.getElem?_set, List.getD_eq_getElem?_getD]
 by_cases e : a = i
 ·subst e; rw [if_pos rfl, if_pos ha, if_pos rfl]; rfl
 ·rw [if_neg e, if_neg e]
theorem gdAt_set {fs : List Gd} {a : Nat} (g : Gd) (ha : a < fs.length) (i : Nat) : gdAt (fs.set a g) i = if a = i then g else gdAt fs i := by
 unfold gdAt
 rw [List.getD_eq_getElem?_getD, List.getElem?_set, List.getD_eq_getElem?_getD]
 by_cases e : a = i
 ·subst e; rw [if_pos rfl, if_pos ha, if_pos rfl]; rfl
 ·rw [if_neg e, if_neg e]
theorem map_set_same {α β : Type} {f : α → β} {l : List α} {a : Nat} {x : α} (h : ∀ y, l[a]? = some y → f x = f y) : (l.set a x).map f = l.map f := by
 rw [List.map_set]
 apply List.ext_getElem?
 intro i
 rw [List.getElem?_set]
 by_cases e : a = i
 ·subst e
  rw [if_pos rfl]
  split
  ·rename_i hl
   have hl' : a < l.length := by simpa using hl
   rw [List.getElem?_map, List.getElem?_eq_getElem hl', h _ (List.getElem?_eq_getElem hl')]; rfl
  ·rename_i hl
   rw [List.getElem?_eq_none (by omega)]
 ·rw [if_neg e]
theorem flat_map {α : Type} {enc : α → List Value} (l : List α) : l.flatMap enc = (l.map enc).flatten := by rw [List.flatMap_def]
theorem pair_map {α : Type} {f : α → Sl3} {l l' : List α} (h : l.Pairwise fun x y => apart (f x) (f y)) (e : l'.map f = l.map f) : l'.Pairwise fun x y => apart (f x) (f y) := by
 have h1 : (l.map f).Pairwise apart := List.pairwise_map.2 h
 rw [← e] at h1
 exact List.pairwise_map.1 h1
theorem mem_map_R {α : Type} {f : α → Sl3} {l l' : List α} (e : l'.map f = l.map f) {x : α} (hx : x ∈ l') : ∃ y ∈ l, f y = f x := by
 have : f x ∈ l.map f := by rw [← e]; exact List.mem_map_of_mem hx
 obtain ⟨y, hy, e⟩ := List.mem_map.1 this
 exact ⟨y, hy, e⟩
section
variable {w : World} {B : Nat} {P : Pgm}
theorem set_below (h : B ≤ w.heap.size) {g b : Nat} {v : Value} (hg : B ≤ g) : Below B w (w.setCell ⟨g, b, none⟩ v) := ⟨rfl, rfl, rfl, by simp [World.setCell], fun k hk => Below.heap_setCell _ ⟨g, b, none⟩ _ k (show k ≠ g by omega)⟩
set_option maxHeartbeats 1000000 in
theorem PgL.setF (h : PgL w B P) {a b : Nat} (ha : a < P.fn) (hb : b < (gfAt P.fs a).refs.length) (z : Int) :
  ∃ g, (gfAt P.fs a).R.1 = some ⟨g, 0, none⟩ ∧ w.cell? ⟨g, b, none⟩ = some (.int .i64 ((gfAt P.fs a).refs.getD b 0)) ∧ w.frozen? ⟨g, b, none⟩ = false ∧ (∀ ad, P.fA = some ad → ad.block ≠ g) ∧ (∀ b' t vs, Blk w b' t vs → t ≠ 3 → b' ≠ g) ∧ Below B w (w.setCell ⟨g, b, none⟩ (.int .i64 z)) ∧ PgL (w.setCell ⟨g, b, none⟩ (.int .i64 z)) B (setF P a b z) := by
 have hal : a < P.fs.length := by rw [h.fr.1]; exact ha
 have hmem : gfAt P.fs a ∈ P.fs := List.mem_of_getElem? (gfAt_some hal)
 obtain ⟨g, e1, hB, hlt, c1, c2, hty, hrow⟩ := row_at (h.own.fref _ hmem) hb z
 have hob : (slV (gfAt P.fs a).R).ownBlock = some g := by unfold slV; rw [e1]; rfl
 have hbw := set_below (w := w) h.base (g := g) (b := b) (v := .int .i64 z) hB
 have hsz : (w.setCell ⟨g, b, none⟩ (.int .i64 z)).heap.size = w.heap.size := by simp [World.setCell]
 have eF : ∀ i, (gfAt (P.fs.set a (setG (gfAt P.fs a) b z)) i).F = (gfAt P.fs i).F := fun i => by
  rw [gfAt_set _ hal]; split
  ·rename_i e; subst e; rfl
  ·rfl
 have eR : (P.fs.set a (setG (gfAt P.fs a) b z)).map (·.R) = P.fs.map (·.R) := map_set_same fun y hy => by rw [gfAt_some hal] at hy; injection hy with hy; rw [← hy]; rfl
 have eE : (P.fs.set a (setG (gfAt P.fs a) b z)).flatMap encGf = P.fs.flatMap encGf := by
  rw [flat_map, flat_map, map_set_same fun y hy => by rw [gfAt_some hal] at hy; injection hy with hy; rw [← hy]; rfl]
 have oth : ∀ {n : Nat} {xs : List Value} {R : Sl3}, w.ownsRow B 3 1 (slV R) n xs → apart (gfAt P.fs a).R R → (w.setCell ⟨g, b, none⟩ (.int .i64 z)).ownsRow B 3 1 (slV R) n xs := fun ho hap => ownsRow_setCell_other ho (hap g hob) _
 have hfr : (w.setCell ⟨g, b, none⟩ (.int .i64 z)).ownsRow B 51 13 (.slice P.fA P.fn P.fc) (P.fs.set a (setG (gfAt P.fs a) b z)).length ((P.fs.set a (setG (gfAt P.fs a) b z)).flatMap encGf) := by
  rw [eE, List.length_set]
  exact ownsRow_setCell_other h.own.fr (own_types h.own.fr (h.own.fref _ hmem) (by decide) hob) _
 have hdr : (w.setCell ⟨g, b, none⟩ (.int .i64 z)).ownsRow B 86 7 (.slice P.dA P.dn P.dc) P.ds.length (P.ds.flatMap encGd) := ownsRow_setCell_other h.own.dr (own_types h.own.dr (h.own.fref _ hmem) (by decide) hob) _
 refine ⟨g, e1, c1, c2, fun ad e hg => own_types h.own.fr (h.own.fref _ hmem) (by decide) hob (by rw [e]; show some ad.block = some g; rw [hg]), hty, hbw, ⟨⟨hfr, hdr, fun x hx => ?_, fun x hx => oth (h.own.dref x hx) (h.own.apX _ hmem x hx), pair_map (f := Gf.R) h.own.apF eR, h.own.apD, fun x hx d hd => ?_⟩, own_wd encGf_len rfl hfr, own_wd encGd_len rfl hdr, fun i hi => ?_, by rw [hsz]; exact h.base, h.bd, fun i hi => ?_, h.lenD, fun i hi => ?_⟩⟩
 ·obtain ⟨i, hi, rfl⟩ := List.mem_iff_getElem.1 (show x ∈ P.fs.set a (setG (gfAt P.fs a) b z) from hx)
  rw [List.length_set] at hi
  by_cases e : a = i
  ·subst e
   rw [List.getElem_set_self]
   exact hrow
  ·rw [List.getElem_set_ne e]
   have hmi : P.fs[i] ∈ P.fs := List.getElem_mem hi
   refine oth (h.own.fref _ hmi) ?_
   have ea : gfAt P.fs a = P.fs[a] := by have := gfAt_some hal; rw [List.getElem?_eq_getElem hal] at this; injection this with this; exact this.symm
   have e5 : (gfAt P.fs a).R = (P.fs[a]'hal).R := congrArg Gf.R ea
   have key : apart (gfAt P.fs a).R (P.fs[i]'hi).R := by
    rw [e5]
    have hp := List.pairwise_iff_getElem.1 h.own.apF
    rcases Nat.lt_or_gt_of_ne e with h1 | h1
    ·exact hp a i hal hi h1
    ·exact (hp i a hi hal h1).symm
   exact key
 ·obtain ⟨y, hy, e⟩ := mem_map_R eR hx
  rw [← e]
  exact h.own.apX y hy d hd
 ·show By.Wd 5 By.encIn _ B (gfAt (P.fs.set a (setG (gfAt P.fs a) b z)) i).F.code.1 (gfAt (P.fs.set a (setG (gfAt P.fs a) b z)) i).F.code.2.1 (gfAt (P.fs.set a (setG (gfAt P.fs a) b z)) i).F.code.2.2 (P.cs i)
  rw [eF]
  exact By.Wd.below (h.code i hi) hbw
 ·show (gfAt (P.fs.set a (setG (gfAt P.fs a) b z)) i).refs.length = (gfAt (P.fs.set a (setG (gfAt P.fs a) b z)) i).F.code.2.1
  rw [eF, gfAt_set _ hal]
  split
  ·rename_i e; subst e
   show ((gfAt P.fs a).refs.set b z).length = _
   rw [List.length_set]; exact h.lenF a hi
  ·exact h.lenF i hi
 ·show ∃ (w0 : World) (x : By.Fn), FnOk w0 (gfAt (P.fs.set a (setG (gfAt P.fs a) b z)) i).F x
  rw [eF]
  exact h.src i hi
set_option maxHeartbeats 1000000 in
theorem PgL.setD (h : PgL w B P) {a b : Nat} (ha : a < P.dn) (hb : b < (gdAt P.ds a).refs.length) (z : Int) :
  ∃ g, (gdAt P.ds a).R.1 = some ⟨g, 0, none⟩ ∧ w.cell? ⟨g, b, none⟩ = some (.int .i64 ((gdAt P.ds a).refs.getD b 0)) ∧ w.frozen? ⟨g, b, none⟩ = false ∧ (∀ ad, P.dA = some ad → ad.block ≠ g) ∧ (∀ b' t vs, Blk w b' t vs → t ≠ 3 → b' ≠ g) ∧ Below B w (w.setCell ⟨g, b, none⟩ (.int .i64 z)) ∧ PgL (w.setCell ⟨g, b, none⟩ (.int .i64 z)) B (setD P a b z) := by
 have hal : a < P.ds.length := by rw [h.dr.1]; exact ha
 have hmem : gdAt P.ds a ∈ P.ds := List.mem_of_getElem? (gdAt_some hal)
 obtain ⟨g, e1, hB, hlt, c1, c2, hty, hrow⟩ := row_at (h.own.dref _ hmem) hb z
 have hob : (slV (gdAt P.ds a).R).ownBlock = some g := by unfold slV; rw [e1]; rfl
 have hbw := set_below (w := w) h.base (g := g) (b := b) (v := .int .i64 z) hB
 have hsz : (w.setCell ⟨g, b, none⟩ (.int .i64 z)).heap.size = w.heap.size := by simp [World.setCell]
 have eF : ∀ i, (gdAt (P.ds.set a (setH (gdAt P.ds a) b z)) i).D = (gdAt P.ds i).D := fun i => by
  rw [gdAt_set _ hal]; split
  ·rename_i e; subst e; rfl
  ·rfl
 have eR : (P.ds.set a (setH (gdAt P.ds a) b z)).map (·.R) = P.ds.map (·.R) := map_set_same fun y hy => by rw [gdAt_some hal] at hy; injection hy with hy; rw [← hy]; rfl
 have eE : (P.ds.set a (setH (gdAt P.ds a) b z)).flatMap encGd = P.ds.flatMap encGd := by
  rw [flat_map, flat_map, map_set_same fun y hy => by rw [gdAt_some hal] at hy; injection hy with hy; rw [← hy]; rfl]
 have oth : ∀ {n : Nat} {xs : List Value} {R : Sl3}, w.ownsRow B 3 1 (slV R) n xs → apart (gdAt P.ds a).R R → (w.setCell ⟨g, b, none⟩ (.int .i64 z)).ownsRow B 3 1 (slV R) n xs := fun ho hap => ownsRow_setCell_other ho (hap g hob) _
 have hdr : (w.setCell ⟨g, b, none⟩ (.int .i64 z)).ownsRow B 86 7 (.slice P.dA P.dn P.dc) (P.ds.set a (setH (gdAt P.ds a) b z)).length ((P.ds.set a (setH (gdAt P.ds a) b z)).flatMap encGd) := by
  rw [eE, List.length_set]
  exact ownsRow_setCell_other h.own.dr (own_types h.own.dr (h.own.dref _ hmem) (by decide) hob) _
 have hfr : (w.setCell ⟨g, b, none⟩ (.int .i64 z)).ownsRow B 51 13 (.slice P.fA P.fn P.fc) P.fs.length (P.fs.flatMap encGf) := ownsRow_setCell_other h.own.fr (own_types h.own.fr (h.own.dref _ hmem) (by decide) hob) _
 refine ⟨g, e1, c1, c2, fun ad e hg => own_types h.own.dr (h.own.dref _ hmem) (by decide) hob (by rw [e]; show some ad.block = some g; rw [hg]), hty, hbw, ⟨⟨hfr, hdr, fun x hx => oth (h.own.fref x hx) (h.own.apX x hx _ hmem).symm, fun x hx => ?_, h.own.apF, pair_map (f := Gd.R) h.own.apD eR, fun x hx d hd => ?_⟩, own_wd encGf_len rfl hfr, own_wd encGd_len rfl hdr, fun i hi => By.Wd.below (h.code i hi) hbw, by rw [hsz]; exact h.base, h.bd, h.lenF, fun i hi => ?_, h.src⟩⟩
 ·obtain ⟨i, hi, rfl⟩ := List.mem_iff_getElem.1 (show x ∈ P.ds.set a (setH (gdAt P.ds a) b z) from hx)
  rw [List.length_set] at hi
  by_cases e : a = i
  ·subst e
   rw [List.getElem_set_self]
   exact hrow
  ·rw [List.getElem_set_ne e]
   have hmi : P.ds[i] ∈ P.ds := List.getElem_mem hi
   refine oth (h.own.dref _ hmi) ?_
   have ea : gdAt P.ds a = P.ds[a] := by have := gdAt_some hal; rw [List.getElem?_eq_getElem hal] at this; injection this with this; exact this.symm
   have e5 : (gdAt P.ds a).R = (P.ds[a]'hal).R := congrArg Gd.R ea
   have key : apart (gdAt P.ds a).R (P.ds[i]'hi).R := by
    rw [e5]
    have hp := List.pairwise_iff_getElem.1 h.own.apD
    rcases Nat.lt_or_gt_of_ne e with h1 | h1
    ·exact hp a i hal hi h1
    ·exact (hp i a hi hal h1).symm
   exact key
 ·obtain ⟨y, hy, e⟩ := mem_map_R eR hd
  rw [← e]
  exact h.own.apX x hx y hy
 ·show (gdAt (P.ds.set a (setH (gdAt P.ds a) b z)) i).refs.length = (gdAt (P.ds.set a (setH (gdAt P.ds a) b z)) i).D.words.2.1
  rw [eF, gdAt_set _ hal]
  split
  ·rename_i e; subst e
   show ((gdAt P.ds a).refs.set b z).length = _
   rw [List.length_set]; exact h.lenD a hi
  ·exact h.lenD i hi
theorem PgL.setE (h : PgL w B P) (z : Int) : PgL w B (setE P z) := ⟨h.own, h.fr, h.dr, h.code, h.base, h.bd, h.lenF, h.lenD, h.src⟩
theorem PgL.cell2 (h : PgL w B P) {g : Nat} {vs : Array Value} (hb : Blk w g 29 vs) (hg : B ≤ g) (i : Nat) (x : Value) : PgL (w.setCell ⟨g, i, none⟩ x) B P :=
 have hown := h.own.cell2 hb i x
 ⟨hown, own_wd encGf_len rfl hown.fr, own_wd encGd_len rfl hown.dr, fun a ha => By.Wd.below (h.code a ha) (set_below h.base hg), by rw [show (w.setCell ⟨g, i, none⟩ x).heap.size = w.heap.size from by simp [World.setCell]]; exact h.base, h.bd, h.lenF, h.lenD, h.src⟩
theorem far_cell {w : World} {b b' i j : Nat} {x y : Value} (h : w.cell? ⟨b, i, none⟩ = some x) (hb : b ≠ b') : (w.setCell ⟨b', j, none⟩ y).cell? ⟨b, i, none⟩ = some x := (World.cell?_of_block (Below.heap_setCell _ ⟨b', j, none⟩ _ b hb)).trans h
theorem far_blk {w : World} {b b' j : Nat} {t : TypeId} {vs : Array Value} {y : Value} (h : Blk w b t vs) (hb : b ≠ b') : Blk (w.setCell ⟨b', j, none⟩ y) b t vs := (Below.heap_setCell _ ⟨b', j, none⟩ _ b hb).trans h
theorem far_below {B : Nat} {w W : World} {b' j : Nat} {y : Value} (h : Below B w W) (hb : B ≤ b') : Below B w (W.setCell ⟨b', j, none⟩ y) := ⟨h.os, h.tape, h.output, by rw [show (W.setCell ⟨b', j, none⟩ y).heap.size = W.heap.size from by simp [World.setCell]]; exact h.size, fun k hk => (Below.heap_setCell _ ⟨b', j, none⟩ _ k (show k ≠ b' by omega)).trans (h.block k hk)⟩
end
end Go.Proofs.YtdaimeaofgbfpaaGreat.Bo
