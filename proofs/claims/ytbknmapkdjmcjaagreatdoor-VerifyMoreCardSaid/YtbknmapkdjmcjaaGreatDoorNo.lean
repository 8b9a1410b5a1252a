/-
  WHAT THE ROW of VerifyMore says of the program, one by one. (Jt, Ve, Tz, Kp in one)
-/
import Derived.Test.YtbknmapkdjmcjaaGreatDoorEa
import Derived.Test.YtbknmapkdjmcjaaGreatDoorEf
import Derived.Deep.Matrix
import Derived.Deep.Slices
import Derived.ChangeSame
import Derived.ChangeOld
import Derived.ChangeShapes
import Derived.ChangeArms
import Derived.OpenShut
import Derived.Test.YtbknmapkdjmcjaaGreatDoorJa
import Derived.Test.YtbknmapkdjmcjaaGreatDoorVb
import Derived.Test.YtbknmapkdjmcjaaGreatDoorVc
import Derived.Test.YtbknmapkdjmcjaaGreatDoorCards
import Derived.Test.YtbknmapkdjmcjaaGreatDoorTie
import Derived.WalkKit
import Derived.ProofKit
import Derived.Stop.LaidErr

namespace Go.Proofs.YtbknmapkdjmcjaaGreatDoor.By
open Go.Maps Go.Deep Go.ChangeShapes Go.WideShapes Go.ChangeAt Go.RowKit
open Mem Gm Rf
set_option linter.unusedSimpArgs false
set_option maxRecDepth 100000

theorem wd_of {α : Type} {k : Nat} {enc : α → List Value} {W : World} {ad : Addr} {len cap : Nat} (hk : ∀ x, 0 < (enc x).length) (hl : len ≤ cap) (hm : cap ≤ maxLen) (q : Nat → α) (hq : ∀ i, i < len → ∀ j u, (enc (q i))[j]? = some u → W.cell? ((ad.add (i * k)).add j) = some u) : Wd k enc W W.heap.size (some ad) len cap ((List.range len).map q) := by
  refine ⟨by simp, hl, hm, fun e => by simp at e, fun i x hi => ?_⟩
  have hil : i < len := by have := (List.getElem?_eq_some_iff.1 hi).1; simpa using this
  rw [List.getElem?_map, List.getElem?_range hil] at hi
  injection hi with hi
  subst hi
  refine ⟨ad, rfl, ?_, hq i hil⟩
  have h0 := hq i hil 0 _ (List.getElem?_eq_getElem (hk (q i)))
  have := World.block_lt_of_cell? W _ h0
  rw [add_block, add_block] at this
  exact this

/-- The bytes that numbers are. -/
def u8Of (zs : List Int) : List UInt8 := zs.map fun z => UInt8.ofNat z.toNat

theorem slv_of_row {w : World} {a : Option Addr} {len cap : Nat} {zs : List Int}
    (h : (a = none ∧ len = 0 ∧ cap = 0 ∧ zs = []) ∨ ∃ x, a = some x ∧ len ≤ cap ∧ cap ≤ maxLen ∧ zs.length = cap ∧ (∀ i, i < zs.length → w.cell? (x.add i) = some (.int .u8 (zs.getD i 0))) ∧ ∀ n ∈ zs, (Lit.int .u8 n).wf = true) :
    ∃ l : List UInt8, l.length = len ∧ SlV w w.heap.size (.slice a len cap) (u8s l) := by
  rcases h with ⟨rfl, rfl, rfl, rfl⟩ | ⟨x, rfl, hl, hm, hz, hc, hw⟩
  · exact ⟨[], rfl, .nil⟩
  · refine ⟨u8Of (zs.take len), by simp [u8Of]; omega, ?_⟩
    have hlen : (u8s (u8Of (zs.take len))).length = len := by simp [u8s, u8Of]; omega
    have := SlV.at_ (w := w) (B := w.heap.size) x cap (u8s (u8Of (zs.take len))) (by rw [hlen]; exact hl) hm (Row.here fun j u hu => by
      have hj : j < len := by
        have := (List.getElem?_eq_some_iff.1 hu).1
        rwa [hlen] at this
      have hjz : j < zs.length := by omega
      rw [hc j hjz]
      have hb := bounds_u8 (hw _ (List.getElem_mem hjz))
      have e : u = .int .u8 zs[j] := by
        have h2 : (u8s (u8Of (zs.take len)))[j]? = some (.int .u8 ((UInt8.ofNat (zs[j]).toNat).toNat : Int)) := by
          simp [u8s, u8Of, hj, hjz]
        rw [h2] at hu
        injection hu with hu
        rw [← hu]
        congr 1
        have : (zs[j]).toNat < 256 := by omega
        simp
        omega
      rw [e]
      simp [List.getD, hjz])
    rwa [hlen] at this

theorem open_bytes {H : Type} {enc : TypeId × Value → H} {W : World} {b : Nat} {held : Bool} {a : Option Addr} {len cap : Nat} {d : DataW H} {p : List MemPlace}
    (h : DataW.Trod enc Tryz.prog W b (fun _ => true) held 35 (.slice a len cap) d p) : ∃ l : List UInt8, l.length = len ∧ SlV W W.heap.size (.slice a len cap) (u8s l) := by
  obtain ⟨fuel, hf⟩ := h
  rcases open_ints Tryz.underlying35 Tryz.underlying5 (by kernel_rfl) hf with ⟨hcs, _⟩ | ⟨x, l, c, zs, hcs, _, hl, hm, hz, _, hcell, hwz⟩
  · simp [Value.cells] at hcs
    obtain ⟨rfl, rfl, rfl⟩ := hcs
    exact slv_of_row (zs := []) (.inl ⟨rfl, rfl, rfl, rfl⟩)
  · simp [Value.cells] at hcs
    obtain ⟨rfl, rfl, rfl⟩ := hcs
    exact slv_of_row (.inr ⟨_, rfl, hl, hm, by simpa using hz, hcell, hwz⟩)
theorem ints_slv {W : World} {ad : Addr} {L C : Nat} (l : List Int) (hl : l.length = L) (hc : L ≤ C) (hm : C ≤ maxLen) (h : ∀ j, j < L → W.cell? (ad.add j) = some (.int .i64 (l.getD j 0))) : IW W (.slice (some ad) L C) l := by
  subst hl
  have hlen : (ints l).length = l.length := by simp [ints]
  have : SlV W W.heap.size (.slice (some ad) (ints l).length C) (ints l) := .at_ ad C _ (by rw [hlen]; exact hc) hm (Row.here fun j u hu => by
    have hj : j < l.length := by
      have := (List.getElem?_eq_some_iff.1 hu).1
      rwa [hlen] at this
    rw [ints_at hj] at hu
    rw [h j hj, ← hu]; rfl)
  rwa [hlen] at this

section
variable {H : Type} {enc : TypeId × Value → H} {W : World} {fuel : Nat} {held : Bool} {a : Option Addr} {len cap : Nat} {x : DataW H × List MemPlace}
theorem ints_of (h : DataW.trod enc Tryz.prog W 0 (fun _ => true) held fuel 135 [.slice a len cap] = some x) : ∃ l : List Int, l.length = len ∧ IW W (.slice a len cap) l := by
  rcases Go.ChangeShapes.open_ints (k := .i64) Tryz.underlying135 Tryz.underlying2 (by kernel_rfl) h with ⟨h1, _⟩ | ⟨ad, len', cap', zs, h1, _, hl, hm, hz, _, hc, _⟩
  · rw [List.cons.injEq, Value.slice.injEq] at h1
    obtain ⟨⟨rfl, rfl, rfl⟩, _⟩ := h1
    exact ⟨[], rfl, .nil⟩
  · rw [List.cons.injEq, Value.slice.injEq] at h1
    obtain ⟨⟨rfl, rfl, rfl⟩, _⟩ := h1
    simp only [if_true] at hz
    refine ⟨zs.take len, by rw [List.length_take]; omega, ints_slv _ (by rw [List.length_take]; omega) hl hm fun j hj => ?_⟩
    rw [hc j (by omega), List.getD_eq_getElem?_getD, List.getD_eq_getElem?_getD, List.getElem?_take, if_pos hj]



set_option maxRecDepth 100000 in
theorem relocs_of (h : DataW.trod enc Tryz.prog W 0 (fun _ => true) held fuel 25 [.slice a len cap] = some x) : ∃ l : List Rl, l.length = len ∧ RlL W a len cap l := by
  rcases open_slice Tryz.underlying25 h with ⟨hcs, _⟩ | ⟨ad, l, c, m, n, D, Pl, hcs, _, hl, hm, hmm, _, hi⟩
  · simp only [List.cons.injEq, Value.slice.injEq, and_true] at hcs
    obtain ⟨rfl, rfl, rfl⟩ := hcs
    exact ⟨[], rfl, Wd.nil⟩
  · simp only [List.cons.injEq, Value.slice.injEq, and_true] at hcs
    obtain ⟨rfl, rfl, rfl⟩ := hcs
    have hlm : len ≤ m := by rw [hmm]; split <;> omega
    have hcN : Tryz.prog.cellsOf 82 = 3 := by kernel_rfl
    have hc3 : Tryz.prog.cellsOf 3 = 1 := by kernel_rfl
    have hc4 : Tryz.prog.cellsOf 4 = 1 := by kernel_rfl
    have hc9 : Tryz.prog.cellsOf 9 = 1 := by kernel_rfl
    have each : ∀ i, i < len → ∃ q : Rl, ∀ j u, (encRl q)[j]? = some u → W.cell? ((ad.add (i * 3)).add j) = some u := fun i hil => by
      obtain ⟨cs', h1, h2⟩ := hi i (by omega)
      rw [hcN] at h1
      obtain ⟨_, hlen, hcell⟩ := World.cells?_some h1
      obtain ⟨xs, k, _, _, _, hxl, hf⟩ := DataW.trod_struct Tryz.underlying82 h2
      match xs, hxl, cs', hlen with
      | [z0, z1, z2], _, [v0, v1, v2], _ =>
        have g0 := hf 0 _ rfl
        have g1 := hf 1 _ rfl
        have g2 := hf 2 _ rfl
        simp [hc3, hc4, hc9] at g0 g1 g2
        obtain ⟨a0, e0, _, w0⟩ := DataW.trod_int Tryz.underlying3 g0
        obtain ⟨a1, e1, _, w1⟩ := DataW.trod_int Tryz.underlying3 g1
        obtain ⟨a2, e2, _⟩ := DataW.trod_bool Tryz.underlying4 g2
        simp only [List.cons.injEq, and_true] at e0 e1 e2
        subst e0 e1 e2
        refine ⟨(a0, a1, a2), fun j u hu => ?_⟩
        have hj : j < 3 := by have := (List.getElem?_eq_some_iff.1 hu).1; simpa [encRl] using this
        have f := hcell j (by simpa using hj)
        match j, hj with
        | 0, _ => rw [f]; simpa [encRl] using hu
        | 1, _ => rw [f]; simpa [encRl] using hu
        | 2, _ => rw [f]; simpa [encRl] using hu
    obtain ⟨q, hq⟩ := choose_lt each
    exact ⟨(List.range len).map q, by simp, wd_of (fun x => by simp [encRl]) hl hm q hq⟩

set_option maxRecDepth 100000 in
theorem syms_of (h : DataW.trod enc Tryz.prog W 0 (fun _ => true) held fuel 49 [.slice a len cap] = some x) : ∃ l : List Sy, l.length = len ∧ SyL W a len cap l := by
  rcases open_slice Tryz.underlying49 h with ⟨hcs, _⟩ | ⟨ad, l, c, m, n, D, Pl, hcs, _, hl, hm, hmm, _, hi⟩
  · simp only [List.cons.injEq, Value.slice.injEq, and_true] at hcs
    obtain ⟨rfl, rfl, rfl⟩ := hcs
    exact ⟨[], rfl, Wd.nil⟩
  · simp only [List.cons.injEq, Value.slice.injEq, and_true] at hcs
    obtain ⟨rfl, rfl, rfl⟩ := hcs
    have hlm : len ≤ m := by rw [hmm]; split <;> omega
    have hcN : Tryz.prog.cellsOf 68 = 5 := by kernel_rfl
    have hc3 : Tryz.prog.cellsOf 3 = 1 := by kernel_rfl
    have hc4 : Tryz.prog.cellsOf 4 = 1 := by kernel_rfl
    have hc9 : Tryz.prog.cellsOf 9 = 1 := by kernel_rfl
    have each : ∀ i, i < len → ∃ q : Sy, ∀ j u, (encSy q)[j]? = some u → W.cell? ((ad.add (i * 5)).add j) = some u := fun i hil => by
      obtain ⟨cs', h1, h2⟩ := hi i (by omega)
      rw [hcN] at h1
      obtain ⟨_, hlen, hcell⟩ := World.cells?_some h1
      obtain ⟨xs, k, _, _, _, hxl, hf⟩ := DataW.trod_struct Tryz.underlying68 h2
      match xs, hxl, cs', hlen with
      | [z0, z1, z2, z3, z4], _, [v0, v1, v2, v3, v4], _ =>
        have g0 := hf 0 _ rfl
        have g1 := hf 1 _ rfl
        have g2 := hf 2 _ rfl
        have g3 := hf 3 _ rfl
        have g4 := hf 4 _ rfl
        simp [hc3, hc4, hc9] at g0 g1 g2 g3 g4
        obtain ⟨a0, e0, _, w0⟩ := DataW.trod_string Tryz.underlying9 g0
        obtain ⟨a1, e1, _⟩ := DataW.trod_bool Tryz.underlying4 g1
        obtain ⟨a2, e2, _, w2⟩ := DataW.trod_int Tryz.underlying3 g2
        obtain ⟨a3, e3, _, w3⟩ := DataW.trod_int Tryz.underlying3 g3
        obtain ⟨a4, e4, _, w4⟩ := DataW.trod_int Tryz.underlying3 g4
        simp only [List.cons.injEq, and_true] at e0 e1 e2 e3 e4
        subst e0 e1 e2 e3 e4
        refine ⟨(a0, a1, a2, a3, a4), fun j u hu => ?_⟩
        have hj : j < 5 := by have := (List.getElem?_eq_some_iff.1 hu).1; simpa [encSy] using this
        have f := hcell j (by simpa using hj)
        match j, hj with
        | 0, _ => rw [f]; simpa [encSy] using hu
        | 1, _ => rw [f]; simpa [encSy] using hu
        | 2, _ => rw [f]; simpa [encSy] using hu
        | 3, _ => rw [f]; simpa [encSy] using hu
        | 4, _ => rw [f]; simpa [encSy] using hu
    obtain ⟨q, hq⟩ := choose_lt each
    exact ⟨(List.range len).map q, by simp, wd_of (fun x => by simp [encSy]) hl hm q hq⟩

theorem array3 {α : Type} {cs : Array α} (h : cs.size = 3) : ∃ c0 c1 c2, cs = #[c0, c1, c2] := by
  obtain ⟨l⟩ := cs
  match l, h with
  | [c0, c1, c2], _ => exact ⟨c0, c1, c2, rfl⟩
end
section
variable {H : Type} {enc : TypeId × Value → H} {W : World} {held : Bool} {fuel : Nat} {t : TypeId} {c : Value} {x : Option (DataW H × List MemPlace)}
theorem one_int (ht : Tryz.prog.underlying t = some (.int .i64)) (h : DataW.trod enc Tryz.prog W 0 (fun _ => true) held fuel t [c] = x) (hx : x.isSome = true) : ∃ z, c = .int .i64 z ∧ (Lit.int .i64 z).wf = true := by
  obtain ⟨y, rfl⟩ := Option.isSome_iff_exists.1 hx
  obtain ⟨z, hc, _, hw⟩ := DataW.trod_int ht h
  simp at hc
  exact ⟨z, hc, hw⟩
theorem one_bool (ht : Tryz.prog.underlying t = some .bool) (h : DataW.trod enc Tryz.prog W 0 (fun _ => true) held fuel t [c] = x) (hx : x.isSome = true) : ∃ z, c = .bool z := by
  obtain ⟨y, rfl⟩ := Option.isSome_iff_exists.1 hx
  obtain ⟨z, hc, _⟩ := DataW.trod_bool ht h
  simp at hc
  exact ⟨z, hc⟩
theorem one_slice {e : TypeId} (ht : Tryz.prog.underlying t = some (.slice e)) (h : DataW.trod enc Tryz.prog W 0 (fun _ => true) held fuel t [c] = x) (hx : x.isSome = true) : ∃ a l k, c = .slice a l k := by
  obtain ⟨y, rfl⟩ := Option.isSome_iff_exists.1 hx
  rcases open_slice ht h with ⟨hcs, _⟩ | ⟨ad, l, c, m, n, D, Pl, hcs, _⟩
  all_goals
    simp only [List.cons.injEq, and_true] at hcs
    exact ⟨_, _, _, hcs⟩
end


/-- What data that came in hold. -/
def DW (W : World) (kd : Int) (AW AR : Option Addr) (nW cW nR cR : Nat) (ws : List Int) (rs : List Rl) : Prop :=
  (Lit.int .i64 kd).wf = true ∧ ws.length = nW ∧ IW W (.slice AW nW cW) ws ∧ RlL W AR nR cR rs
theorem open_data {H : Type} {enc : TypeId × Value → H} {W : World} {base : Nat} {held : Bool} {v : Value} {d : DataW H} {p : List MemPlace} (hv : Value.okWide Tryz.prog W .any base 137 v)
    (h : DataW.Trod enc Tryz.prog W 0 (fun _ => true) held 137 v d p) :
    ∃ kd AW nW cW AR nR cR, v = .agg #[.int .i64 kd, .slice AW nW cW, .slice AR nR cR] ∧ ∃ ws rs, DW W kd AW AR nW cW nR cR ws rs := by
  have k9 : Tryz.prog.cellsOf 137 = 3 := by kernel_rfl
  obtain ⟨cs, rfl, hsz⟩ := okWide_struct Tryz.underlying137 hv
  obtain ⟨c0, c1, c2, rfl⟩ := array3 (hsz.trans k9)
  obtain ⟨fuel, hf⟩ := h
  obtain ⟨xs, m, _, _, hl, hlen, hx⟩ := DataW.trod_struct Tryz.underlying137 hf
  have h0 := hx 0 _ rfl
  have h1 := hx 1 _ rfl
  have h2 := hx 2 _ rfl
  have kI : Tryz.prog.cellsOf 3 = 1 := by kernel_rfl
  have kS : Tryz.prog.cellsOf 135 = 1 := by kernel_rfl
  have kR : Tryz.prog.cellsOf 25 = 1 := by kernel_rfl
  simp [Value.cells, kI, kS, kR] at h0 h1 h2
  have hlen9 : xs.length = 3 := hlen
  have hs : ∀ i, i < 3 → (xs[i]?).isSome = true := fun i hi => by rw [List.getElem?_eq_getElem (by omega)]; rfl
  obtain ⟨z0, rfl, w0⟩ := one_int Tryz.underlying3 h0 (hs 0 (by omega))
  obtain ⟨a1, l1, k1, rfl⟩ := one_slice Tryz.underlying135 h1 (hs 1 (by omega))
  obtain ⟨a2, l2, k2, rfl⟩ := one_slice Tryz.underlying25 h2 (hs 2 (by omega))
  obtain ⟨y1, hy1⟩ := Option.isSome_iff_exists.1 (hs 1 (by omega))
  obtain ⟨y2, hy2⟩ := Option.isSome_iff_exists.1 (hs 2 (by omega))
  rw [hy1] at h1
  rw [hy2] at h2
  obtain ⟨ws, hw1, hw2⟩ := ints_of h1
  obtain ⟨rs, hr1, hr2⟩ := relocs_of h2
  exact ⟨_, _, _, _, _, _, _, rfl, ws, rs, w0, hw1, hw2, hr2⟩
end Go.Proofs.YtbknmapkdjmcjaaGreatDoor.By

namespace Go.Proofs.YtbknmapkdjmcjaaGreatDoor.By
open Go.Maps Go.Deep Go.ChangeShapes Go.WideShapes Go.ChangeAt Go.RowKit
open Mem Gm Rf
set_option linter.unusedSimpArgs false
set_option maxRecDepth 100000

theorem array9 {α : Type} {cs : Array α} (h : cs.size = 9) : ∃ c0 c1 c2 c3 c4 c5 c6 c7 c8, cs = #[c0, c1, c2, c3, c4, c5, c6, c7, c8] := by
  obtain ⟨l⟩ := cs
  match l, h with
  | [c0, c1, c2, c3, c4, c5, c6, c7, c8], _ => exact ⟨c0, c1, c2, c3, c4, c5, c6, c7, c8, rfl⟩

section
variable {H : Type} {enc : TypeId × Value → H} {W : World} {fuel : Nat} {held : Bool} {a : Option Addr} {len cap : Nat} {x : DataW H × List MemPlace}
theorem kinds_bd (h : DataW.trod enc Tryz.prog W 0 (fun _ => true) held fuel 22 [.slice a len cap] = some x) : ∃ l : List Int, l.length = len ∧ IW W (.slice a len cap) l ∧ ∀ n ∈ l, (Lit.int .i64 n).wf = true := by
  rcases Go.ChangeShapes.open_ints (k := .i64) Tryz.underlying22 Tryz.underlying3 (by kernel_rfl) h with ⟨h1, _⟩ | ⟨ad, len', cap', zs, h1, _, hl, hm, hz, _, hc, hwz⟩
  · rw [List.cons.injEq, Value.slice.injEq] at h1
    obtain ⟨⟨rfl, rfl, rfl⟩, _⟩ := h1
    exact ⟨[], rfl, .nil, fun n hn => absurd hn (by simp)⟩
  · rw [List.cons.injEq, Value.slice.injEq] at h1
    obtain ⟨⟨rfl, rfl, rfl⟩, _⟩ := h1
    simp only [if_true] at hz
    refine ⟨zs.take len, by rw [List.length_take]; omega, ints_slv _ (by rw [List.length_take]; omega) hl hm fun j hj => ?_, fun n hn => hwz n (List.mem_of_mem_take hn)⟩
    rw [hc j (by omega), List.getD_eq_getElem?_getD, List.getD_eq_getElem?_getD, List.getElem?_take, if_pos hj]

set_option maxRecDepth 100000 in
theorem lines_of (h : DataW.trod enc Tryz.prog W 0 (fun _ => true) held fuel 23 [.slice a len cap] = some x) : ∃ l : List Ln, l.length = len ∧ LnL W a len cap l := by
  rcases open_slice Tryz.underlying23 h with ⟨hcs, _⟩ | ⟨ad, l, c, m, n, D, Pl, hcs, _, hl, hm, hmm, _, hi⟩
  · simp only [List.cons.injEq, Value.slice.injEq, and_true] at hcs
    obtain ⟨rfl, rfl, rfl⟩ := hcs
    exact ⟨[], rfl, Wd.nil⟩
  · simp only [List.cons.injEq, Value.slice.injEq, and_true] at hcs
    obtain ⟨rfl, rfl, rfl⟩ := hcs
    have hlm : len ≤ m := by rw [hmm]; split <;> omega
    have hcN : Tryz.prog.cellsOf 85 = 2 := by kernel_rfl
    have hc3 : Tryz.prog.cellsOf 3 = 1 := by kernel_rfl
    have hc4 : Tryz.prog.cellsOf 4 = 1 := by kernel_rfl
    have hc9 : Tryz.prog.cellsOf 9 = 1 := by kernel_rfl
    have each : ∀ i, i < len → ∃ q : Ln, ∀ j u, (encLn q)[j]? = some u → W.cell? ((ad.add (i * 2)).add j) = some u := fun i hil => by
      obtain ⟨cs', h1, h2⟩ := hi i (by omega)
      rw [hcN] at h1
      obtain ⟨_, hlen, hcell⟩ := World.cells?_some h1
      obtain ⟨xs, k, _, _, _, hxl, hf⟩ := DataW.trod_struct Tryz.underlying85 h2
      match xs, hxl, cs', hlen with
      | [z0, z1], _, [v0, v1], _ =>
        have g0 := hf 0 _ rfl
        have g1 := hf 1 _ rfl
        simp [hc3, hc4, hc9] at g0 g1
        obtain ⟨a0, e0, _, w0⟩ := DataW.trod_int Tryz.underlying3 g0
        obtain ⟨a1, e1, _, w1⟩ := DataW.trod_int Tryz.underlying3 g1
        simp only [List.cons.injEq, and_true] at e0 e1
        subst e0 e1
        refine ⟨(a0, a1), fun j u hu => ?_⟩
        have hj : j < 2 := by have := (List.getElem?_eq_some_iff.1 hu).1; simpa [encLn] using this
        have f := hcell j (by simpa using hj)
        match j, hj with
        | 0, _ => rw [f]; simpa [encLn] using hu
        | 1, _ => rw [f]; simpa [encLn] using hu
    obtain ⟨q, hq⟩ := choose_lt each
    exact ⟨(List.range len).map q, by simp, wd_of (fun x => by simp [encLn]) hl hm q hq⟩

set_option maxRecDepth 100000 in
theorem code_bd (h : DataW.trod enc Tryz.prog W 0 (fun _ => true) held fuel 24 [.slice a len cap] = some x) : ∃ l : List In5, l.length = len ∧ InL W a len cap l ∧ ∀ y ∈ l, (Lit.int .i64 y.1).wf = true := by
  rcases open_slice Tryz.underlying24 h with ⟨hcs, _⟩ | ⟨ad, l, c, m, n, D, Pl, hcs, _, hl, hm, hmm, _, hi⟩
  · simp only [List.cons.injEq, Value.slice.injEq, and_true] at hcs
    obtain ⟨rfl, rfl, rfl⟩ := hcs
    exact ⟨[], rfl, Wd.nil, fun y hy => absurd hy (by simp)⟩
  · simp only [List.cons.injEq, Value.slice.injEq, and_true] at hcs
    obtain ⟨rfl, rfl, rfl⟩ := hcs
    have hlm : len ≤ m := by rw [hmm]; split <;> omega
    have hcN : Tryz.prog.cellsOf 94 = 5 := by kernel_rfl
    have hc3 : Tryz.prog.cellsOf 3 = 1 := by kernel_rfl
    have hc4 : Tryz.prog.cellsOf 4 = 1 := by kernel_rfl
    have hc2 : Tryz.prog.cellsOf 2 = 1 := by kernel_rfl
    have hc9 : Tryz.prog.cellsOf 9 = 1 := by kernel_rfl
    have each : ∀ i, i < len → ∃ q : In5, (∀ j u, (encIn q)[j]? = some u → W.cell? ((ad.add (i * 5)).add j) = some u) ∧ (Lit.int .i64 q.1).wf = true := fun i hil => by
      obtain ⟨cs', h1, h2⟩ := hi i (by omega)
      rw [hcN] at h1
      obtain ⟨_, hlen, hcell⟩ := World.cells?_some h1
      obtain ⟨xs, k, _, _, _, hxl, hf⟩ := DataW.trod_struct Tryz.underlying94 h2
      match xs, hxl, cs', hlen with
      | [z0, z1, z2, z3, z4], _, [v0, v1, v2, v3, v4], _ =>
        have g0 := hf 0 _ rfl
        have g1 := hf 1 _ rfl
        have g2 := hf 2 _ rfl
        have g3 := hf 3 _ rfl
        have g4 := hf 4 _ rfl
        simp [hc2, hc3, hc4, hc9] at g0 g1 g2 g3 g4
        obtain ⟨a0, e0, _, w0⟩ := DataW.trod_int Tryz.underlying3 g0
        obtain ⟨a1, e1, _, w1⟩ := DataW.trod_int Tryz.underlying3 g1
        obtain ⟨a2, e2, _, w2⟩ := DataW.trod_int Tryz.underlying3 g2
        obtain ⟨a3, e3, _, w3⟩ := DataW.trod_int Tryz.underlying3 g3
        obtain ⟨a4, e4, _, w4⟩ := DataW.trod_int Tryz.underlying2 g4
        simp only [List.cons.injEq, and_true] at e0 e1 e2 e3 e4
        subst e0 e1 e2 e3 e4
        refine ⟨(a0, a1, a2, a3, a4), fun j u hu => ?_, w0⟩
        have hj : j < 5 := by have := (List.getElem?_eq_some_iff.1 hu).1; simpa [encIn] using this
        have f := hcell j (by simpa using hj)
        match j, hj with
        | 0, _ => rw [f]; simpa [encIn] using hu
        | 1, _ => rw [f]; simpa [encIn] using hu
        | 2, _ => rw [f]; simpa [encIn] using hu
        | 3, _ => rw [f]; simpa [encIn] using hu
        | 4, _ => rw [f]; simpa [encIn] using hu
    obtain ⟨q, hq⟩ := choose_lt each
    exact ⟨(List.range len).map q, by simp, wd_of (fun x => by simp [encIn]) hl hm q (fun i hi => (hq i hi).1), fun y hy => by
      obtain ⟨i, hi, rfl⟩ := List.mem_map.1 hy
      exact (hq i (List.mem_range.1 hi)).2⟩
end
/-- What the numbers of a function lie within. -/
def FB (x : Fn) : Prop := (∀ z ∈ x.ks, -9223372036854775808 ≤ z ∧ z ≤ 9223372036854775807) ∧ ∀ k, k < x.cs.length → -9223372036854775808 ≤ (inAt x.cs k).1 ∧ (inAt x.cs k).1 ≤ 9223372036854775807
theorem open_fn {H : Type} {enc : TypeId × Value → H} {W : World} {base : Nat} {held : Bool} {v : Value} {d : DataW H} {p : List MemPlace} (hv : Value.okWide Tryz.prog W .any base 27 v)
    (h : DataW.Trod enc Tryz.prog W 0 (fun _ => true) held 27 v d p) :
    ∃ AK nK cK AL nL cL AC nC cC AR nR cR, ∃ x : Fn, v = .agg #[.int .i64 x.k, .slice AK nK cK, .int .i64 x.pd, .bool x.ns, .int .i64 x.f, .int .i64 x.t, .slice AL nL cL, .slice AC nC cC, .slice AR nR cR] ∧ FnW W AK nK cK AL nL cL AC nC cC AR nR cR x ∧ FB x := by
  have k9 : Tryz.prog.cellsOf 27 = 9 := by kernel_rfl
  obtain ⟨cs, rfl, hsz⟩ := okWide_struct Tryz.underlying27 hv
  obtain ⟨c0, c1, c2, c3, c4, c5, c6, c7, c8, rfl⟩ := array9 (hsz.trans k9)
  obtain ⟨fuel, hf⟩ := h
  obtain ⟨xs, m, _, _, hl, hlen, hx⟩ := DataW.trod_struct Tryz.underlying27 hf
  have h0 := hx 0 _ rfl
  have h1 := hx 1 _ rfl
  have h2 := hx 2 _ rfl
  have h3 := hx 3 _ rfl
  have h4 := hx 4 _ rfl
  have h5 := hx 5 _ rfl
  have h6 := hx 6 _ rfl
  have h7 := hx 7 _ rfl
  have h8 := hx 8 _ rfl
  have kI : Tryz.prog.cellsOf 3 = 1 := by kernel_rfl
  have kB : Tryz.prog.cellsOf 4 = 1 := by kernel_rfl
  have kS : Tryz.prog.cellsOf 22 = 1 := by kernel_rfl
  have kL : Tryz.prog.cellsOf 23 = 1 := by kernel_rfl
  have kC : Tryz.prog.cellsOf 24 = 1 := by kernel_rfl
  have kR : Tryz.prog.cellsOf 25 = 1 := by kernel_rfl
  simp [Value.cells, kI, kB, kS, kL, kC, kR] at h0 h1 h2 h3 h4 h5 h6 h7 h8
  have hlen9 : xs.length = 9 := hlen
  have hs : ∀ i, i < 9 → (xs[i]?).isSome = true := fun i hi => by rw [List.getElem?_eq_getElem (by omega)]; rfl
  obtain ⟨z0, rfl, _⟩ := one_int Tryz.underlying3 h0 (hs 0 (by omega))
  obtain ⟨a1, l1, k1, rfl⟩ := one_slice Tryz.underlying22 h1 (hs 1 (by omega))
  obtain ⟨z2, rfl, _⟩ := one_int Tryz.underlying3 h2 (hs 2 (by omega))
  obtain ⟨z3, rfl⟩ := one_bool Tryz.underlying4 h3 (hs 3 (by omega))
  obtain ⟨z4, rfl, _⟩ := one_int Tryz.underlying3 h4 (hs 4 (by omega))
  obtain ⟨z5, rfl, _⟩ := one_int Tryz.underlying3 h5 (hs 5 (by omega))
  obtain ⟨a6, l6, k6, rfl⟩ := one_slice Tryz.underlying23 h6 (hs 6 (by omega))
  obtain ⟨a7, l7, k7, rfl⟩ := one_slice Tryz.underlying24 h7 (hs 7 (by omega))
  obtain ⟨a8, l8, k8, rfl⟩ := one_slice Tryz.underlying25 h8 (hs 8 (by omega))
  obtain ⟨y1, hy1⟩ := Option.isSome_iff_exists.1 (hs 1 (by omega))
  obtain ⟨y6, hy6⟩ := Option.isSome_iff_exists.1 (hs 6 (by omega))
  obtain ⟨y7, hy7⟩ := Option.isSome_iff_exists.1 (hs 7 (by omega))
  obtain ⟨y8, hy8⟩ := Option.isSome_iff_exists.1 (hs 8 (by omega))
  rw [hy1] at h1
  rw [hy6] at h6
  rw [hy7] at h7
  rw [hy8] at h8
  obtain ⟨ks, hk1, hk2, hk3⟩ := kinds_bd h1
  obtain ⟨ls, hl1, hl2⟩ := lines_of h6
  obtain ⟨cs, hc1, hc2, hc3⟩ := code_bd h7
  obtain ⟨rs, hr1, hr2⟩ := relocs_of h8
  exact ⟨_, _, _, _, _, _, _, _, _, _, _, _, ⟨z0, ks, z2, z3, z4, z5, ls, cs, rs⟩, rfl, ⟨hk2, hk1, hl2, hc2, hr2⟩, fun n hn => bounds_i64 (hk3 n hn), fun k hk => bounds_i64 (hc3 _ (by
    have e := inAt_some (l := cs) hk
    exact List.mem_of_getElem? e))⟩
end Go.Proofs.YtbknmapkdjmcjaaGreatDoor.By

namespace Go.Proofs.YtbknmapkdjmcjaaGreatDoor.By
open Go.RowKit

def strData {H : Type} (ss : List (List UInt8)) : DataW H := .agg (ss.map fun s => .lit (.string s))

theorem cells_of_texts {H : Type} {enc : TypeId × Value → H} {P : Program} {w : World} {base : Nat} {sp : Nat → Bool} {held : Bool} {fuel : Nat} {t e : TypeId} {n : Nat} {cs : List Value} {ss : List (List UInt8)} {p : List MemPlace}
    (ht : P.underlying t = some (.array n e)) (he : P.underlying e = some .string) (hce : P.cellsOf e = 1) (hct : P.cellsOf t = n)
    (h : DataW.trod enc P w base sp held fuel t cs = some (strData ss, p)) : ∀ (i : Nat) (s : List UInt8), ss[i]? = some s → cs[i]? = some (Value.string ⟨s.toArray⟩) := by
  cases fuel with
  | zero => simp [DataW.trod] at h
  | succ fuel =>
    simp only [DataW.trod, ht, hce, hct, Nat.mul_one] at h
    split at h
    · rename_i hl
      obtain ⟨xs, hm, hx⟩ := Option.map_eq_some_iff.1 h
      have hxs : xs.map (·.1) = ss.map fun s => (DataW.lit (.string s) : DataW H) := by
        have := congrArg Prod.fst hx
        simpa [strData] using this
      have hxl : xs.length = n := by simpa using Lib.mapM_length hm
      have hzl : ss.length = n := by
        have := congrArg List.length hxs
        simp at this
        omega
      intro i s hs
      have hi : i < n := by
        have := (List.getElem?_eq_some_iff.1 hs).1
        omega
      obtain ⟨b, hb, hf⟩ := Lib.mapM_at hm i i (by simp [hi])
      obtain ⟨z, hc, rfl, _⟩ := DataW.trod_string he hf
      have h1 : cs[i]? = some (.string z) := by
        have := congrArg (·[0]?) hc
        simpa [List.getElem?_take, List.getElem?_drop] using this
      have h2 : (xs.map (·.1))[i]? = some (DataW.lit (.string z.data.toList) : DataW H) := by simp [hb]
      rw [hxs] at h2
      simp only [List.getElem?_map, hs, Option.map_some, Option.some.injEq, DataW.lit.injEq, Lit.string.injEq] at h2
      rw [h1, h2]
    · cases h

theorem cells_of_head {W : World} {rest : List (String × DataW Unit)} {name : String} {g n : Nat} {ss : List (List UInt8)} {t e : TypeId} (glob : Tryz.prog.globalNamed name = some g)
    (hty : (Tryz.prog.globals[g]?).map (·.type) = some t) (ht : Tryz.prog.underlying t = some (.array n e)) (he : Tryz.prog.underlying e = some .string) (hce : Tryz.prog.cellsOf e = 1) (hct : Tryz.prog.cellsOf t = n)
    (h : laidMet Tryz.prog ((name, strData ss) :: rest) W) : ∀ (i : Nat) (s : List UInt8), ss[i]? = some s → W.cell? ⟨g, i, none⟩ = some (.string ⟨s.toArray⟩) := by
  obtain ⟨ps, ⟨g', t', cs, fuel, p, q, hg', ht', hvar, hd, _, _⟩, _⟩ := h
  obtain rfl := Option.some.inj (glob.symm.trans hg')
  obtain rfl := Option.some.inj (hty.symm.trans ht')
  have hc := cells_of_texts ht he hce hct hd
  intro i s hs
  have h1 := World.var?_cell glob hvar i
  rw [h1]
  have h2 := hc i s hs
  rw [Array.getElem?_toList] at h2
  exact h2

theorem laid_tail {P : Program} {W : World} {x : String × DataW Unit} {rest : List (String × DataW Unit)} (h : laidMet P (x :: rest) W) : laidMet P rest W := by
  obtain ⟨ps, hl, hn, hc⟩ := h
  obtain ⟨name, d⟩ := x
  obtain ⟨g', t', cs, fuel, p, q, hg', ht', hvar, hd, hr, rfl⟩ := hl
  exact ⟨q, hr, (List.nodup_append.1 hn).2.1, fun b off hm => hc b off (List.mem_append.2 (.inr hm))⟩

theorem getD_some (l : List (List UInt8)) (i : Nat) (h : i < l.length) : l[i]? = some (l.getD i []) := by
  simp [List.getD, List.getElem?_eq_getElem h]

end Go.Proofs.YtbknmapkdjmcjaaGreatDoor.By

namespace Go.Proofs.YtbknmapkdjmcjaaGreatDoor.By
open Go.Maps Go.Deep Go.ChangeShapes Go.WideShapes Go.ChangeAt Go.RowKit
open Mem Gm Rf
set_option linter.unusedSimpArgs false
set_option linter.unusedVariables false
set_option maxRecDepth 100000
section
variable {H : Type} {enc : TypeId × Value → H} {W : World} {fuel : Nat} {held : Bool} {a : Option Addr} {len cap : Nat} {x : DataW H × List MemPlace}
theorem syms_bd (h : DataW.trod enc Tryz.prog W 0 (fun _ => true) held fuel 49 [.slice a len cap] = some x) : ∃ l : List Sy, l.length = len ∧ SyL W a len cap l ∧ ∀ y ∈ l, (Lit.int .i64 y.2.2.2.1).wf = true := by
  rcases open_slice Tryz.underlying49 h with ⟨hcs, _⟩ | ⟨ad, l, c, m, n, D, Pl, hcs, _, hl, hm, hmm, _, hi⟩
  · simp only [List.cons.injEq, Value.slice.injEq, and_true] at hcs
    obtain ⟨rfl, rfl, rfl⟩ := hcs
    exact ⟨[], rfl, Wd.nil, fun y hy => absurd hy (by simp)⟩
  · simp only [List.cons.injEq, Value.slice.injEq, and_true] at hcs
    obtain ⟨rfl, rfl, rfl⟩ := hcs
    have hlm : len ≤ m := by rw [hmm]; split <;> omega
    have hcN : Tryz.prog.cellsOf 68 = 5 := by kernel_rfl
    have hc3 : Tryz.prog.cellsOf 3 = 1 := by kernel_rfl
    have hc4 : Tryz.prog.cellsOf 4 = 1 := by kernel_rfl
    have hc9 : Tryz.prog.cellsOf 9 = 1 := by kernel_rfl
    have each : ∀ i, i < len → ∃ q : Sy, (∀ j u, (encSy q)[j]? = some u → W.cell? ((ad.add (i * 5)).add j) = some u) ∧ (Lit.int .i64 q.2.2.2.1).wf = true := fun i hil => by
      obtain ⟨cs', h1, h2⟩ := hi i (by omega)
      rw [hcN] at h1
      obtain ⟨_, hlen, hcell⟩ := World.cells?_some h1
      obtain ⟨xs, k, _, _, _, hxl, hf⟩ := DataW.trod_struct Tryz.underlying68 h2
      match xs, hxl, cs', hlen with
      | [z0, z1, z2, z3, z4], _, [v0, v1, v2, v3, v4], _ =>
        have g0 := hf 0 _ rfl
        have g1 := hf 1 _ rfl
        have g2 := hf 2 _ rfl
        have g3 := hf 3 _ rfl
        have g4 := hf 4 _ rfl
        simp [hc3, hc4, hc9] at g0 g1 g2 g3 g4
        obtain ⟨a0, e0, _, w0⟩ := DataW.trod_string Tryz.underlying9 g0
        obtain ⟨a1, e1, _⟩ := DataW.trod_bool Tryz.underlying4 g1
        obtain ⟨a2, e2, _, w2⟩ := DataW.trod_int Tryz.underlying3 g2
        obtain ⟨a3, e3, _, w3⟩ := DataW.trod_int Tryz.underlying3 g3
        obtain ⟨a4, e4, _, w4⟩ := DataW.trod_int Tryz.underlying3 g4
        simp only [List.cons.injEq, and_true] at e0 e1 e2 e3 e4
        subst e0 e1 e2 e3 e4
        refine ⟨(a0, a1, a2, a3, a4), fun j u hu => ?_, w3⟩
        have hj : j < 5 := by have := (List.getElem?_eq_some_iff.1 hu).1; simpa [encSy] using this
        have f := hcell j (by simpa using hj)
        match j, hj with
        | 0, _ => rw [f]; simpa [encSy] using hu
        | 1, _ => rw [f]; simpa [encSy] using hu
        | 2, _ => rw [f]; simpa [encSy] using hu
        | 3, _ => rw [f]; simpa [encSy] using hu
        | 4, _ => rw [f]; simpa [encSy] using hu
    obtain ⟨q, hq⟩ := choose_lt each
    exact ⟨(List.range len).map q, by simp, wd_of (fun x => by simp [encSy]) hl hm q (fun i hi => (hq i hi).1), fun y hy => by
      obtain ⟨i, hi, rfl⟩ := List.mem_map.1 hy
      exact (hq i (List.mem_range.1 hi)).2⟩
end
theorem open_syms {H : Type} {enc : TypeId × Value → H} {W : World} {held : Bool} {a : Option Addr} {len cap : Nat} {d : DataW H} {p : List MemPlace}
    (h : DataW.Trod enc Tryz.prog W 0 (fun _ => true) held 49 (.slice a len cap) d p) :
    ∃ l : List Sy, l.length = len ∧ SyL W a len cap l ∧ ∀ k, -9223372036854775808 ≤ (syAt l k).2.2.2.1 ∧ (syAt l k).2.2.2.1 ≤ 9223372036854775807 := by
  obtain ⟨fuel, hf⟩ := h
  obtain ⟨l, h1, h2, h3⟩ := syms_bd hf
  refine ⟨l, h1, h2, fun k => ?_⟩
  by_cases hk : k < l.length
  · have e : syAt l k = l[k] := by unfold syAt; rw [List.getD_eq_getElem?_getD, List.getElem?_eq_getElem hk]; rfl
    rw [e]
    exact bounds_i64 (h3 _ (List.getElem_mem hk))
  · have e : syAt l k = (⟨#[]⟩, false, 0, 0, 0) := by unfold syAt; rw [List.getD_eq_getElem?_getD, List.getElem?_eq_none (by omega)]; rfl
    rw [e]
    exact ⟨by decide, by decide⟩
end Go.Proofs.YtbknmapkdjmcjaaGreatDoor.By

namespace Go.Proofs.YtbknmapkdjmcjaaGreatDoor.Bq
open Go.ChangeShapes Go.WideShapes Go.ChangeAt Go.RowKit
set_option maxRecDepth 100000
theorem j1 : (Rows.verifyMoreRow.inPlace == Tryz.pinned.checked.prog.inPlace 8) = true := by kernel_rfl
theorem j2 : (Rows.verifyMoreRow.unfollowed == Tryz.pinned.checked.prog.unfollowed 8) = true := by kernel_rfl
theorem j3 : (Rows.verifyMoreRow.recurses == Tryz.pinned.checked.prog.recurses 8) = true := by kernel_rfl
theorem j4 : (Rows.verifyMoreRow.named == Tryz.pinned.checked.prog.varsNamed 8) = true := by kernel_rfl
theorem jr : joinedFacts Tryz.pinned.checked.prog 8 Tryz.f8 (OpenSpec.ofChange Rows.verifyMoreSpec).bare Rows.verifyMoreRow = true := by
  unfold joinedFacts
  rw [j1, j2, j3, j4]
  kernel_rfl
end Go.Proofs.YtbknmapkdjmcjaaGreatDoor.Bq
