/-
  READINGS for the frames: data, symbols and bytes that came in by value.
-/
import Derived.Test.YthkbdclnnpcoiaaDoorEs
import Derived.Deep.Matrix
import Derived.Deep.Slices
import Derived.ChangeSame
import Derived.ChangeOld
import Derived.ChangeShapes
import Derived.ChangeArms
import Derived.OpenShut
namespace Go.Proofs.YthkbdclnnpcoiaaDoor.By
open Go.Maps Go.Deep Go.ChangeShapes Go.WideShapes Go.ChangeAt Go.RowKit
open Mem Gm Rf
set_option linter.unusedSimpArgs false
set_option maxRecDepth 100000

theorem wd_of {α : Type} {k : Nat} {enc : α → List Value} {W : World} {ad : Addr} {len cap : Nat} (hk : ∀ x, 0 < (enc x).length) (hl : len ≤ cap) (hm : cap ≤ maxLen) (q : Nat → α) (hq : ∀ i, i < len → ∀ j u, (enc (q i))[j]? = some u → W.cell? ((ad.add (i * k)).add j) = some u) : Wd k enc W W.heap.size (some ad) len cap ((List.range len).map q) := by
  refine ⟨by simp, hl, hm, fun e => by simp at e, fun i x hi => ?_⟩
  have hil : i < len := by have := (List.getElem?_eq_some_iff.1 hi).1; simpa using this
  rw [List.getElem?_map, List.getElem?_range hil] at hi
  injection hi with hi
  subst hi
  refine ⟨ad, rfl, ?_, hq i hil⟩
  have h0 := hq i hil 0 _ (List.getElem?_eq_getElem (hk (q i)))
  have := World.block_lt_of_cell? W _ h0
  rw [add_block, add_block] at this
  exact this

/-- The bytes that numbers are. -/
def u8Of (zs : List Int) : List UInt8 := zs.map fun z => UInt8.ofNat z.toNat

theorem slv_of_row {w : World} {a : Option Addr} {len cap : Nat} {zs : List Int}
    (h : (a = none ∧ len = 0 ∧ cap = 0 ∧ zs = []) ∨ ∃ x, a = some x ∧ len ≤ cap ∧ cap ≤ maxLen ∧ zs.length = cap ∧ (∀ i, i < zs.length → w.cell? (x.add i) = some (.int .u8 (zs.getD i 0))) ∧ ∀ n ∈ zs, (Lit.int .u8 n).wf = true) :
    ∃ l : List UInt8, l.length = len ∧ SlV w w.heap.size (.slice a len cap) (u8s l) := by
  rcases h with ⟨rfl, rfl, rfl, rfl⟩ | ⟨x, rfl, hl, hm, hz, hc, hw⟩
  · exact ⟨[], rfl, .nil⟩
  · refine ⟨u8Of (zs.take len), by simp [u8Of]; omega, ?_⟩
    have hlen : (u8s (u8Of (zs.take len))).length = len := by simp [u8s, u8Of]; omega
    have := SlV.at_ (w := w) (B := w.heap.size) x cap (u8s (u8Of (zs.take len))) (by rw [hlen]; exact hl) hm (Row.here fun j u hu => by
      have hj : j < len := by
        have := (List.getElem?_eq_some_iff.1 hu).1
        rwa [hlen] at this
      have hjz : j < zs.length := by omega
      rw [hc j hjz]
      have hb := bounds_u8 (hw _ (List.getElem_mem hjz))
      have e : u = .int .u8 zs[j] := by
        have h2 : (u8s (u8Of (zs.take len)))[j]? = some (.int .u8 ((UInt8.ofNat (zs[j]).toNat).toNat : Int)) := by
          simp [u8s, u8Of, hj, hjz]
        rw [h2] at hu
        injection hu with hu
        rw [← hu]
        congr 1
        have : (zs[j]).toNat < 256 := by omega
        simp
        omega
      rw [e]
      simp [List.getD, hjz])
    rwa [hlen] at this

theorem open_bytes {H : Type} {enc : TypeId × Value → H} {W : World} {b : Nat} {held : Bool} {a : Option Addr} {len cap : Nat} {d : DataW H} {p : List MemPlace}
    (h : DataW.Trod enc Tryd.prog W b (fun _ => true) held 36 (.slice a len cap) d p) : ∃ l : List UInt8, l.length = len ∧ SlV W W.heap.size (.slice a len cap) (u8s l) := by
  obtain ⟨fuel, hf⟩ := h
  rcases open_ints Tryd.underlying36 Tryd.underlying5 (by kernel_rfl) hf with ⟨hcs, _⟩ | ⟨x, l, c, zs, hcs, _, hl, hm, hz, _, hcell, hwz⟩
  · simp [Value.cells] at hcs
    obtain ⟨rfl, rfl, rfl⟩ := hcs
    exact slv_of_row (zs := []) (.inl ⟨rfl, rfl, rfl, rfl⟩)
  · simp [Value.cells] at hcs
    obtain ⟨rfl, rfl, rfl⟩ := hcs
    exact slv_of_row (.inr ⟨_, rfl, hl, hm, by simpa using hz, hcell, hwz⟩)
theorem ints_slv {W : World} {ad : Addr} {L C : Nat} (l : List Int) (hl : l.length = L) (hc : L ≤ C) (hm : C ≤ maxLen) (h : ∀ j, j < L → W.cell? (ad.add j) = some (.int .i64 (l.getD j 0))) : IW W (.slice (some ad) L C) l := by
  subst hl
  have hlen : (ints l).length = l.length := by simp [ints]
  have : SlV W W.heap.size (.slice (some ad) (ints l).length C) (ints l) := .at_ ad C _ (by rw [hlen]; exact hc) hm (Row.here fun j u hu => by
    have hj : j < l.length := by
      have := (List.getElem?_eq_some_iff.1 hu).1
      rwa [hlen] at this
    rw [ints_at hj] at hu
    rw [h j hj, ← hu]; rfl)
  rwa [hlen] at this

section
variable {H : Type} {enc : TypeId × Value → H} {W : World} {fuel : Nat} {held : Bool} {a : Option Addr} {len cap : Nat} {x : DataW H × List MemPlace}
theorem ints_of (h : DataW.trod enc Tryd.prog W 0 (fun _ => true) held fuel 22 [.slice a len cap] = some x) : ∃ l : List Int, l.length = len ∧ IW W (.slice a len cap) l := by
  rcases Go.ChangeShapes.open_ints (k := .i64) Tryd.underlying22 Tryd.underlying2 (by kernel_rfl) h with ⟨h1, _⟩ | ⟨ad, len', cap', zs, h1, _, hl, hm, hz, _, hc, _⟩
  · rw [List.cons.injEq, Value.slice.injEq] at h1
    obtain ⟨⟨rfl, rfl, rfl⟩, _⟩ := h1
    exact ⟨[], rfl, .nil⟩
  · rw [List.cons.injEq, Value.slice.injEq] at h1
    obtain ⟨⟨rfl, rfl, rfl⟩, _⟩ := h1
    simp only [if_true] at hz
    refine ⟨zs.take len, by rw [List.length_take]; omega, ints_slv _ (by rw [List.length_take]; omega) hl hm fun j hj => ?_⟩
    rw [hc j (by omega), List.getD_eq_getElem?_getD, List.getD_eq_getElem?_getD, List.getElem?_take, if_pos hj]



set_option maxRecDepth 100000 in
theorem relocs_of (h : DataW.trod enc Tryd.prog W 0 (fun _ => true) held fuel 23 [.slice a len cap] = some x) : ∃ l : List Rl, l.length = len ∧ RlL W a len cap l := by
  rcases open_slice Tryd.underlying23 h with ⟨hcs, _⟩ | ⟨ad, l, c, m, n, D, Pl, hcs, _, hl, hm, hmm, _, hi⟩
  · simp only [List.cons.injEq, Value.slice.injEq, and_true] at hcs
    obtain ⟨rfl, rfl, rfl⟩ := hcs
    exact ⟨[], rfl, Wd.nil⟩
  · simp only [List.cons.injEq, Value.slice.injEq, and_true] at hcs
    obtain ⟨rfl, rfl, rfl⟩ := hcs
    have hlm : len ≤ m := by rw [hmm]; split <;> omega
    have hcN : Tryd.prog.cellsOf 51 = 3 := by kernel_rfl
    have hc3 : Tryd.prog.cellsOf 3 = 1 := by kernel_rfl
    have hc4 : Tryd.prog.cellsOf 4 = 1 := by kernel_rfl
    have hc9 : Tryd.prog.cellsOf 9 = 1 := by kernel_rfl
    have each : ∀ i, i < len → ∃ q : Rl, ∀ j u, (encRl q)[j]? = some u → W.cell? ((ad.add (i * 3)).add j) = some u := fun i hil => by
      obtain ⟨cs', h1, h2⟩ := hi i (by omega)
      rw [hcN] at h1
      obtain ⟨_, hlen, hcell⟩ := World.cells?_some h1
      obtain ⟨xs, k, _, _, _, hxl, hf⟩ := DataW.trod_struct Tryd.underlying51 h2
      match xs, hxl, cs', hlen with
      | [z0, z1, z2], _, [v0, v1, v2], _ =>
        have g0 := hf 0 _ rfl
        have g1 := hf 1 _ rfl
        have g2 := hf 2 _ rfl
        simp [hc3, hc4, hc9] at g0 g1 g2
        obtain ⟨a0, e0, _, w0⟩ := DataW.trod_int Tryd.underlying3 g0
        obtain ⟨a1, e1, _, w1⟩ := DataW.trod_int Tryd.underlying3 g1
        obtain ⟨a2, e2, _⟩ := DataW.trod_bool Tryd.underlying4 g2
        simp only [List.cons.injEq, and_true] at e0 e1 e2
        subst e0 e1 e2
        refine ⟨(a0, a1, a2), fun j u hu => ?_⟩
        have hj : j < 3 := by have := (List.getElem?_eq_some_iff.1 hu).1; simpa [encRl] using this
        have f := hcell j (by simpa using hj)
        match j, hj with
        | 0, _ => rw [f]; simpa [encRl] using hu
        | 1, _ => rw [f]; simpa [encRl] using hu
        | 2, _ => rw [f]; simpa [encRl] using hu
    obtain ⟨q, hq⟩ := choose_lt each
    exact ⟨(List.range len).map q, by simp, wd_of (fun x => by simp [encRl]) hl hm q hq⟩

set_option maxRecDepth 100000 in
theorem syms_of (h : DataW.trod enc Tryd.prog W 0 (fun _ => true) held fuel 26 [.slice a len cap] = some x) : ∃ l : List Sy, l.length = len ∧ SyL W a len cap l := by
  rcases open_slice Tryd.underlying26 h with ⟨hcs, _⟩ | ⟨ad, l, c, m, n, D, Pl, hcs, _, hl, hm, hmm, _, hi⟩
  · simp only [List.cons.injEq, Value.slice.injEq, and_true] at hcs
    obtain ⟨rfl, rfl, rfl⟩ := hcs
    exact ⟨[], rfl, Wd.nil⟩
  · simp only [List.cons.injEq, Value.slice.injEq, and_true] at hcs
    obtain ⟨rfl, rfl, rfl⟩ := hcs
    have hlm : len ≤ m := by rw [hmm]; split <;> omega
    have hcN : Tryd.prog.cellsOf 53 = 5 := by kernel_rfl
    have hc3 : Tryd.prog.cellsOf 3 = 1 := by kernel_rfl
    have hc4 : Tryd.prog.cellsOf 4 = 1 := by kernel_rfl
    have hc9 : Tryd.prog.cellsOf 9 = 1 := by kernel_rfl
    have each : ∀ i, i < len → ∃ q : Sy, ∀ j u, (encSy q)[j]? = some u → W.cell? ((ad.add (i * 5)).add j) = some u := fun i hil => by
      obtain ⟨cs', h1, h2⟩ := hi i (by omega)
      rw [hcN] at h1
      obtain ⟨_, hlen, hcell⟩ := World.cells?_some h1
      obtain ⟨xs, k, _, _, _, hxl, hf⟩ := DataW.trod_struct Tryd.underlying53 h2
      match xs, hxl, cs', hlen with
      | [z0, z1, z2, z3, z4], _, [v0, v1, v2, v3, v4], _ =>
        have g0 := hf 0 _ rfl
        have g1 := hf 1 _ rfl
        have g2 := hf 2 _ rfl
        have g3 := hf 3 _ rfl
        have g4 := hf 4 _ rfl
        simp [hc3, hc4, hc9] at g0 g1 g2 g3 g4
        obtain ⟨a0, e0, _, w0⟩ := DataW.trod_string Tryd.underlying9 g0
        obtain ⟨a1, e1, _⟩ := DataW.trod_bool Tryd.underlying4 g1
        obtain ⟨a2, e2, _, w2⟩ := DataW.trod_int Tryd.underlying3 g2
        obtain ⟨a3, e3, _, w3⟩ := DataW.trod_int Tryd.underlying3 g3
        obtain ⟨a4, e4, _, w4⟩ := DataW.trod_int Tryd.underlying3 g4
        simp only [List.cons.injEq, and_true] at e0 e1 e2 e3 e4
        subst e0 e1 e2 e3 e4
        refine ⟨(a0, a1, a2, a3, a4), fun j u hu => ?_⟩
        have hj : j < 5 := by have := (List.getElem?_eq_some_iff.1 hu).1; simpa [encSy] using this
        have f := hcell j (by simpa using hj)
        match j, hj with
        | 0, _ => rw [f]; simpa [encSy] using hu
        | 1, _ => rw [f]; simpa [encSy] using hu
        | 2, _ => rw [f]; simpa [encSy] using hu
        | 3, _ => rw [f]; simpa [encSy] using hu
        | 4, _ => rw [f]; simpa [encSy] using hu
    obtain ⟨q, hq⟩ := choose_lt each
    exact ⟨(List.range len).map q, by simp, wd_of (fun x => by simp [encSy]) hl hm q hq⟩

theorem array3 {α : Type} {cs : Array α} (h : cs.size = 3) : ∃ c0 c1 c2, cs = #[c0, c1, c2] := by
  obtain ⟨l⟩ := cs
  match l, h with
  | [c0, c1, c2], _ => exact ⟨c0, c1, c2, rfl⟩
end
section
variable {H : Type} {enc : TypeId × Value → H} {W : World} {held : Bool} {fuel : Nat} {t : TypeId} {c : Value} {x : Option (DataW H × List MemPlace)}
theorem one_int (ht : Tryd.prog.underlying t = some (.int .i64)) (h : DataW.trod enc Tryd.prog W 0 (fun _ => true) held fuel t [c] = x) (hx : x.isSome = true) : ∃ z, c = .int .i64 z ∧ (Lit.int .i64 z).wf = true := by
  obtain ⟨y, rfl⟩ := Option.isSome_iff_exists.1 hx
  obtain ⟨z, hc, _, hw⟩ := DataW.trod_int ht h
  simp at hc
  exact ⟨z, hc, hw⟩
theorem one_bool (ht : Tryd.prog.underlying t = some .bool) (h : DataW.trod enc Tryd.prog W 0 (fun _ => true) held fuel t [c] = x) (hx : x.isSome = true) : ∃ z, c = .bool z := by
  obtain ⟨y, rfl⟩ := Option.isSome_iff_exists.1 hx
  obtain ⟨z, hc, _⟩ := DataW.trod_bool ht h
  simp at hc
  exact ⟨z, hc⟩
theorem one_slice {e : TypeId} (ht : Tryd.prog.underlying t = some (.slice e)) (h : DataW.trod enc Tryd.prog W 0 (fun _ => true) held fuel t [c] = x) (hx : x.isSome = true) : ∃ a l k, c = .slice a l k := by
  obtain ⟨y, rfl⟩ := Option.isSome_iff_exists.1 hx
  rcases open_slice ht h with ⟨hcs, _⟩ | ⟨ad, l, c, m, n, D, Pl, hcs, _⟩
  all_goals
    simp only [List.cons.injEq, and_true] at hcs
    exact ⟨_, _, _, hcs⟩
end


/-- What data that came in hold. -/
def DW (W : World) (kd : Int) (AW AR : Option Addr) (nW cW nR cR : Nat) (ws : List Int) (rs : List Rl) : Prop :=
  (Lit.int .i64 kd).wf = true ∧ ws.length = nW ∧ IW W (.slice AW nW cW) ws ∧ RlL W AR nR cR rs
theorem open_data {H : Type} {enc : TypeId × Value → H} {W : World} {base : Nat} {held : Bool} {v : Value} {d : DataW H} {p : List MemPlace} (hv : Value.okWide Tryd.prog W .any base 25 v)
    (h : DataW.Trod enc Tryd.prog W 0 (fun _ => true) held 25 v d p) :
    ∃ kd AW nW cW AR nR cR, v = .agg #[.int .i64 kd, .slice AW nW cW, .slice AR nR cR] ∧ ∃ ws rs, DW W kd AW AR nW cW nR cR ws rs := by
  have k9 : Tryd.prog.cellsOf 25 = 3 := by kernel_rfl
  obtain ⟨cs, rfl, hsz⟩ := okWide_struct Tryd.underlying25 hv
  obtain ⟨c0, c1, c2, rfl⟩ := array3 (hsz.trans k9)
  obtain ⟨fuel, hf⟩ := h
  obtain ⟨xs, m, _, _, hl, hlen, hx⟩ := DataW.trod_struct Tryd.underlying25 hf
  have h0 := hx 0 _ rfl
  have h1 := hx 1 _ rfl
  have h2 := hx 2 _ rfl
  have kI : Tryd.prog.cellsOf 3 = 1 := by kernel_rfl
  have kS : Tryd.prog.cellsOf 22 = 1 := by kernel_rfl
  have kR : Tryd.prog.cellsOf 23 = 1 := by kernel_rfl
  simp [Value.cells, kI, kS, kR] at h0 h1 h2
  have hlen9 : xs.length = 3 := hlen
  have hs : ∀ i, i < 3 → (xs[i]?).isSome = true := fun i hi => by rw [List.getElem?_eq_getElem (by omega)]; rfl
  obtain ⟨z0, rfl, w0⟩ := one_int Tryd.underlying3 h0 (hs 0 (by omega))
  obtain ⟨a1, l1, k1, rfl⟩ := one_slice Tryd.underlying22 h1 (hs 1 (by omega))
  obtain ⟨a2, l2, k2, rfl⟩ := one_slice Tryd.underlying23 h2 (hs 2 (by omega))
  obtain ⟨y1, hy1⟩ := Option.isSome_iff_exists.1 (hs 1 (by omega))
  obtain ⟨y2, hy2⟩ := Option.isSome_iff_exists.1 (hs 2 (by omega))
  rw [hy1] at h1
  rw [hy2] at h2
  obtain ⟨ws, hw1, hw2⟩ := ints_of h1
  obtain ⟨rs, hr1, hr2⟩ := relocs_of h2
  exact ⟨_, _, _, _, _, _, _, rfl, ws, rs, w0, hw1, hw2, hr2⟩
end Go.Proofs.YthkbdclnnpcoiaaDoor.By
