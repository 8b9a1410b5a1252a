/-
 Qi2
-/
import Derived.Test.YtdaimeaofgbfpaaGreatZa2
import Derived.Test.YtdaimeaofgbfpaaGreatQh2
set_option linter.unusedSimpArgs false
set_option linter.unusedVariables false
namespace Go.Proofs.YtdaimeaofgbfpaaGreat.Bo
open Go.RowKit Go.Maps
open Mem Rf
structure Bx (w : World) (A : Option Addr) (n c : Nat) (os : List Oj) (ne : ByteArray → Int) (ks kt : Int → Bool) (vf rf de : Nat → Nat → Int) (sv : Nat → Nat → Nat → Int) (dv : Nat → Nat → List Int) : Prop where
 mem : OjsL w A n c os
 few : n ≤ 9 ∧ ∀ i, i < n → (ojAt os i).n ≤ 60 ∧ (ojAt os i).fn ≤ 20 ∧ (ojAt os i).dn ≤ 20
 obj : ∀ i, i < n → Dx w (ojAt os i) ne ks kt (vf i) (rf i) (de i)
 code : ∀ i, i < n → ∀ k, k < (ojAt os i).fn → (fcAt (ojAt os i).fl k).code.2.1 ≤ 4096
 words : ∀ i, i < n → ∀ k, k < (ojAt os i).dn → (dv i k).length ≤ 4096
 sym : ∀ W, Below w.heap.size w W → ∀ i, i < n → ∀ k, k < (ojAt os i).fn → ∀ j : Nat, Calls Tryz.prog 78 #[.agg (encFc (fcAt (ojAt os i).fl k)).toArray, .int .i64 (j : Int)] W fun e w' => e = .returned (.int .i64 (sv i k j)) ∧ Below W.heap.size W w'
 refs : ∀ W, Below w.heap.size w W → ∀ i, i < n → ∀ k, k < (ojAt os i).dn → Calls Tryz.prog 81 #[.agg (encDc (dcAt (ojAt os i).dl k)).toArray] W fun e w' => ∃ Ai ci, e = .returned (.slice Ai (dv i k).length ci) ∧ IL w' Ai (dv i k).length ci (dv i k) ∧ Below W.heap.size W w'
 svok : ∀ i, i < n → ∀ k, k < (ojAt os i).fn → vf i k = 0 → ∀ j, j < (fcAt (ojAt os i).fl k).code.2.1 → sv i k j < 0 ∨ (0 ≤ sv i k j ∧ (sv i k j).toNat < (ojAt os i).n)
 dvok : ∀ i, i < n → ∀ k, k < (ojAt os i).dn → de i k = 0 → ∀ z ∈ dv i k, z < 0 ∨ (0 ≤ z ∧ z.toNat < (ojAt os i).n)
def ckO (os : List Oj) (ne : ByteArray → Int) (ks kt : Int → Bool) (vf rf de : Nat → Nat → Int) (i : Nat) : Int × Int :=
 chkO (tooMany (ojAt os i)) (ojAt os i).n ((ojAt os i).fn + (ojAt os i).dn) (symE (ojAt os i) ne ks kt) (itmE (ojAt os i) (vf i) (rf i) (de i))
structure Good (o : Oj) (vf de : Nat → Int) : Prop where
 few : o.n ≤ 32 ∧ o.fn ≤ 12 ∧ o.dn ≤ 8
 df : ∀ k, k < o.l.length → dfOk o.l o.fn o.dn k
 has : ∀ i, i < o.fn + o.dn → ∃ k, dfr o.l o.fn i = some k
 fn : ∀ k, k < o.fn → vf k = 0
 dat : ∀ k, k < o.dn → de k = 0
theorem good_of {o : Oj} {ne : ByteArray → Int} {ks kt : Int → Bool} {vf rf de : Nat → Int} (hl : o.l.length = o.n) (h : (chkO (tooMany o) o.n (o.fn + o.dn) (symE o ne ks kt) (itmE o vf rf de)).1 = 0) : Good o vf de := by
 obtain ⟨h1, h2⟩ := right_all hl h
 obtain ⟨ht, _, hi⟩ := chk_zero h
 have hc : ∀ i, i < o.fn + o.dn → conE o vf rf de i = 0 := fun i hi' => by
  obtain ⟨k, hk⟩ := h2 i hi'
  have h9 := hi i hi'
  rw [itm_some hk] at h9
  by_cases hh : (syAt o.l k).2.2.2.1 = knd o i
  ·rw [if_pos hh] at h9; exact h9
  ·rw [if_neg hh] at h9; exact absurd h9 (by decide)
 refine ⟨fewO ht, h1, h2, fun k hk => ?_, fun k hk => ?_⟩
 ·have h9 := hc k (by omega)
  unfold conE at h9
  rw [if_pos hk] at h9
  by_cases hv : vf k = 0
  ·exact hv
  ·rw [if_neg hv] at h9; exact h9
 ·have h9 := hc (o.fn + k) (by omega)
  unfold conE at h9
  rw [if_neg (by omega), Nat.add_sub_cancel_left] at h9
  exact h9
theorem allS_mem' {L : List (List Sy)} {i k : Nat} (hi : i < L.length) (hk : k < (rowS L i).length) : ((i, k), atS L i k) ∈ allS L := by
 unfold allS
 refine List.mem_flatMap.2 ⟨i, List.mem_range.2 hi, ?_⟩
 unfold rowL
 exact List.mem_map.2 ⟨k, List.mem_range.2 hk, rfl⟩
theorem okTo_of {L : List (List Sy)} (h : looseV L = none) {i k : Nat} (hi : i < L.length) (hk : k < (rowS L i).length) : (boundAt L (i, k)).2 = 0 := by
 unfold looseV at h
 rw [Option.map_eq_none_iff, List.find?_eq_none] at h
 have := h _ (allS_mem' hi hk)
 simpa using this
theorem dfOk_def {l : List Sy} {nF nD k : Nat} (h : dfOk l nF nD k) (hf : nF ≤ 20 ∧ nD ≤ 20) : -1000 ≤ (syAt l k).2.2.2.2 ∧ (syAt l k).2.2.2.2 ≤ 1000 := by
 rcases h.2 with e | ⟨e, e2⟩
 ·omega
 ·unfold mostO at e2
  split at e2 <;> omega
section
variable {w w' : World} {A : Option Addr} {n c : Nat} {os : List Oj} {ne : ByteArray → Int} {ks kt : Int → Bool} {vf rf de : Nat → Nat → Int} {sv : Nat → Nat → Nat → Int} {dv : Nat → Nat → List Int}
theorem Bx.good (h : Bx w A n c os ne ks kt vf rf de sv dv) {i : Nat} (hi : i < n) (hc : (ckO os ne ks kt vf rf de i).1 = 0) : Good (ojAt os i) (vf i) (de i) := good_of (h.mem.each i hi).sy.1 hc
theorem Bx.px (h : Bx w A n c os ne ks kt vf rf de sv dv) (hg : ∀ i, i < n → Good (ojAt os i) (vf i) (de i)) (hs : looseV (symsO os) = none) (hb : Below w.heap.size w w') : Px w' A n c os sv dv where
 mem := h.mem.on hb
 few := h.few
 code := h.code
 words := h.words
 sym := fun W hW => h.sym W (to_ hb hW)
 refs := fun W hW => h.refs W (to_ hb hW)
 num := fun W hW i hi k hk => by
  have hlo : os.length = n := h.mem.wd.1
  have hll : (symsO os).length = n := by rw [symsO_length, hlo]
  have hrl : ∀ j, j < n → (rowS (symsO os) j).length = (ojAt os j).n := fun j hj => by rw [rowS_symsO (by omega), (h.mem.each j hj).sy.1]
  have h0 := okTo_of hs (i := i) (k := k) (by omega) (by rw [hrl i hi]; exact hk)
  refine number_any W A n c os (h.mem.on (to_ hb hW)) h.few.1 (fun i hi => (h.few.2 i hi).2) i k hi hk h0 ?_
  have hin := boundAt_in (L := symsO os) (i := i) (k := k) (by omega) (by rw [hrl i hi]; exact hk) h0
  have hq : (boundAt (symsO os) (i, k)).1.1 < n := by omega
  have hat : ∀ a b, a < n → atS (symsO os) a b = syAt (ojAt os a).l b := fun a b ha => by unfold atS; rw [rowS_symsO (by omega)]
  rw [hat _ _ hq]
  refine dfOk_def ((hg _ hq).df _ ?_) (h.few.2 _ hq).2
  rw [← rowS_symsO (by omega : (boundAt (symsO os) (i, k)).1.1 < os.length)]
  exact hin.2
 has := fun i hi => (hg i hi).has
 svok := fun i hi k hk => h.svok i hi k hk ((hg i hi).fn k hk)
 dvok := fun i hi k hk => h.dvok i hi k hk ((hg i hi).dat k hk)
end
def entB (L : List (List Sy)) (nm : ByteArray) : Bool := match findV L nm with | none => false | some q => decide ((atS L q.1 q.2).2.2.1 = 1 ∧ (atS L q.1 q.2).2.2.2.1 ≤ 1)
def bindV (os : List Oj) (n : Nat) (ck : Nat → Int × Int) (nm : ByteArray) : Option (Int × Int × Int) :=
 if n = 0 ∨ 6 < n then some (19, -1, -1) else match frsI (fun i => (ck i).1) n with
 | some i => some ((ck i).1, (i : Int), (ck i).2)
 | none => if (checkV (symsO os)).1 ≠ 0 then some (checkV (symsO os)) else if entB (symsO os) nm = true then none else some (15, -1, -1)
theorem bind_many {os : List Oj} {n : Nat} {ck : Nat → Int × Int} {nm : ByteArray} (h : n = 0 ∨ 6 < n) : bindV os n ck nm = some (19, -1, -1) := by unfold bindV; rw [if_pos h]
theorem bind_obj {os : List Oj} {n : Nat} {ck : Nat → Int × Int} {nm : ByteArray} (h : ¬ (n = 0 ∨ 6 < n)) {i : Nat} (hi : i < n) (h1 : ∀ m, m < i → ((ck m).1 != 0) = false) (h2 : ((ck i).1 != 0) = true) : bindV os n ck nm = some ((ck i).1, (i : Int), (ck i).2) := by
 unfold bindV frsI; rw [if_neg h, find_at hi h1 h2]
theorem bind_fine {os : List Oj} {n : Nat} {ck : Nat → Int × Int} {nm : ByteArray} (h : ¬ (n = 0 ∨ 6 < n)) (h1 : ∀ m, m < n → ((ck m).1 != 0) = false) : bindV os n ck nm = if (checkV (symsO os)).1 ≠ 0 then some (checkV (symsO os)) else if entB (symsO os) nm = true then none else some (15, -1, -1) := by
 unfold bindV frsI; rw [if_neg h, find_no h1]
def zP : Value := .agg #[.slice none 0 0, .slice none 0 0, .int .i64 0]
def BAns (w : World) (os : List Oj) (n : Nat) (nm : ByteArray) (sv : Nat → Nat → Nat → Int) (dv : Nat → Nat → List Int) (b : Option (Int × Int × Int)) (e : Ending) (w' : World) : Prop :=
 match b with
 | some r => e = .returned (.tuple #[zP, .agg #[.int .i64 r.1, .int .i64 r.2.1, .int .i64 r.2.2]]) ∧ Below w.heap.size w w'
 | none => ∃ fs ds v1 v2 q, e = .returned (.tuple #[.agg #[v1, v2, .int .i64 (numV os q.1 q.2)], .agg #[.int .i64 0, .int .i64 0, .int .i64 0]]) ∧ findV (symsO os) nm = some q ∧ FOk os sv (fpos os n 0) fs ∧ DOk os dv (dpos os n 0) ds ∧ Below w.heap.size w w' ∧ PgO w.heap.size w' fs ds v1 v2
theorem own_blk_cell {w : World} {B n k g : Nat} {E t : TypeId} {v : Value} {xs : List Value} {vs : Array Value} (h : w.ownsRow B E k v n xs) (hb : Blk w g t vs) (hE : E ≠ t) (i : Nat) (x : Value) : (w.setCell ⟨g, i, none⟩ x).ownsRow B E k v n xs := own_keep1 h fun b _ _ hv => Below.heap_setCell _ ⟨g, i, none⟩ _ b (fun e => blk_not hb h hE (by rw [hv]; exact congrArg some e))
theorem PgO.cell2 {B g : Nat} {w : World} {fs : List Gf} {ds : List Gd} {v1 v2 : Value} {vs : Array Value} (h : PgO B w fs ds v1 v2) (hb : Blk w g 29 vs) (i : Nat) (x : Value) : PgO B (w.setCell ⟨g, i, none⟩ x) fs ds v1 v2 :=
 ⟨own_blk_cell h.fr hb (by decide) i x, own_blk_cell h.dr hb (by decide) i x, fun g hg => own_blk_cell (h.fref g hg) hb (by decide) i x, fun g hg => own_blk_cell (h.dref g hg) hb (by decide) i x, h.apF, h.apD, h.apX⟩
theorem cell_drew {w : World} {p : Addr} {x : Value} (h : w.cell? p = some x) : w.drew.cell? p = some x := h
theorem own_two {w W : World} {t u : TypeId} {a b : Array Value} (hb : Below ((w.alloc (.cells a t)).alloc (.cells b u)).heap.size ((w.alloc (.cells a t)).alloc (.cells b u)) W) : Below w.heap.size w W ∧ Blk W w.heap.size t a ∧ Blk W (w.heap.size + 1) u b := by
 have hk := ((Blk.new w t a).alloc (.cells b u)).below hb (by simp; omega)
 have hk2 := Blk.new (w.alloc (.cells a t)) u b
 rw [World.size_alloc] at hk2
 exact ⟨to_ (to_ (alloc_ w _) (alloc_ _ _)) hb, hk, hk2.below hb (by simp)⟩
theorem PgO.lower {B B' : Nat} {w : World} {fs : List Gf} {ds : List Gd} {v1 v2 : Value} (h : PgO B w fs ds v1 v2) (hB : B' ≤ B) : PgO B' w fs ds v1 v2 := ⟨own_lower h.fr hB, own_lower h.dr hB, fun g hg => own_lower (h.fref g hg) hB, fun g hg => own_lower (h.dref g hg) hB, h.apF, h.apD, h.apX⟩
set_option maxRecDepth 100000 in
set_option maxHeartbeats 4000000 in
theorem bind_walk (w : World) (A : Option Addr) (n c : Nat) (os : List Oj) (ne : ByteArray → Int) (ks kt : Int → Bool) (vf rf de : Nat → Nat → Int) (sv : Nat → Nat → Nat → Int) (dv : Nat → Nat → List Int) (h : Bx w A n c os ne ks kt vf rf de sv dv) (nm : ByteArray) :
  Calls Tryz.prog 11 #[.slice A n c, .string nm] w (BAns w os n nm sv dv (bindV os n (ckO os ne ks kt vf rf de) nm)) := by
 have hn9 := h.few.1
 by_cases hmany : n = 0 ∨ 6 < n
 ·rw [bind_many hmany]
  unfold BAns
  dsimp only
  have hm1 : decide ((n : Int) = 0) = true ∨ (((n : Int) == 0) = false ∧ (6 : Int) < (n : Int)) := by
   rcases hmany with h | h
   ·exact .inl (by simp [h])
   ·exact .inr ⟨by simp; omega, by omega⟩
  clear h hmany
  rcases hm1 with h | ⟨h, h6⟩
  focus
   have h' : ((n : Int) == 0) = true := by simpa using h
   clear h
  rotate_left
  rotate_left
  all_goals
   go_enter Tryz.func11, Tryz.ntmps11
   go_wp2_with fail
   refine bodyPost_ret (v := .tuple #[zP, .agg #[.int .i64 19, .int .i64 (-1), .int .i64 (-1)]]) (by simp [results, Tryz.results11, go_sem, zP]) rfl ⟨rfl, to_ (alloc_ _ _) (alloc_ _ _)⟩
 ·have hm0 : ((n : Int) == 0) = false := by simp; omega
  have hm6 : ¬ (6 : Int) < (n : Int) := by omega
  have HCK := Hd (fun W (hb : Below w.heap.size w W) i (hi : i < n) => show Calls Tryz.prog 38 #[ojV (ojAt os i)] W fun e w' => e = .returned (.tuple #[.int .i64 (ckO os ne ks kt vf rf de i).1, .int .i64 (ckO os ne ks kt vf rf de i).2]) ∧ Below W.heap.size W w' from dcheck ((h.obj i hi).on hb))
  have HAT := Hd (fun W (hw : Below w.heap.size w W) j (hj : j < n) => (h.mem.on hw).at_ hj)
  have HFS := Hd (fun W (hw : Below w.heap.size w W) => fs_ofO (h.mem.on hw))
  have HBX := Hd h
  have HGD := Hd (fun i (hi : i < n) hc => h.good hi hc)
  have HBO := Hd (fun i hi h1 h2 => bind_obj (os := os) (n := n) (ck := ckO os ne ks kt vf rf de) (nm := nm) hmany (i := i) hi h1 h2)
  have HBF := Hd (fun h1 => bind_fine (os := os) (n := n) (ck := ckO os ne ks kt vf rf de) (nm := nm) hmany h1)
  have hlo : os.length = n := h.mem.wd.1
  have HLO := Hd hlo
  obtain ⟨bv, hbv⟩ : ∃ b, bindV os n (ckO os ne ks kt vf rf de) nm = b := ⟨_, rfl⟩
  rw [hbv] at HBO HBF ⊢
  obtain ⟨ck, hck⟩ : ∃ x, ckO os ne ks kt vf rf de = x := ⟨_, rfl⟩
  rw [hck] at HCK HGD HBO HBF
  clear h hmany hbv hck hlo
  obtain ⟨W0, hW0⟩ : ∃ W0, (w.alloc (.cells #[.slice none 0 0, .slice none 0 0, .int .i64 0] 29)).alloc (.cells #[.int .i64 0, .int .i64 0, .int .i64 0] 32) = W0 := ⟨_, rfl⟩
  have HX := Hd (fun W (hb : Below W0.heap.size W0 W) => own_two (w := w) (W := W) (t := 29) (u := 32) (a := #[.slice none 0 0, .slice none 0 0, .int .i64 0]) (b := #[.int .i64 0, .int .i64 0, .int .i64 0]) (by rw [hW0]; exact hb))
  go_enter Tryz.func11, Tryz.ntmps11
  go_wp2_with fail
  clear hW0
  go_loopw [6] (fun i9 wr => ∃ i : Nat, i ≤ n ∧ i9 = .int .i64 (i : Int) ∧ Hid (∀ m, m < i → ((ck m).1 != 0) = false) ∧ Hid (Below W0.heap.size W0 wr)) (fun i9 _ => n - (intOf i9).toNat)
  case atStart => exact ⟨0, Nat.zero_le _, rfl, Hd (fun m hm => by omega), Hd (Below.refl _ _)⟩
  case round =>
   obtain ⟨i, hi, rfl, HNO, HBE⟩ := hrel
   by_cases hlt : i < n
   ·have hiI : (i : Int) < (n : Int) := by omega
    have hi0 : (0 : Int) ≤ (i : Int) := by omega
    have HB1 := Hd (HX.out wr HBE.out).1
    obtain ⟨ad, rfl, _, a0, a1, a2⟩ := HAT.out wr HB1.out i hlt
    have HC := Hd (HCK.out wr HB1.out i hlt)
    have HV := Hd (HBO.out i hlt HNO.out)
    have HM := Hd (fun e => upto_more (p := fun m => ((ck m).1 != 0) = false) HNO.out e)
    obtain ⟨⟨x, y⟩, hxy⟩ : ∃ x, ck i = x := ⟨_, rfl⟩
    rw [hxy] at HC HV HM
    unfold ojV at HC
    dsimp only at HC HV HM
    clear hxy
    by_cases x0 : x = 0
    ·have x0' : (x != 0) = false := by simp [x0]
     have HR := Hd (HM.out x0')
     clear x0
     go_wp2_with (go_at_call 38; refine HC.out.mono ?_; rintro e w3 ⟨rfl, b3⟩; have HB3 := Hd (to_ HBE.out b3); clear b3)
     go_roundw
     case rel => exact ⟨i + 1, by omega, by go_num, HR, HB3⟩
     case measure => simp [intOf]; omega
    ·have x0' : (x != 0) = true := by simp [x0]
     have HR := Hd (HV.out x0')
     clear x0
     go_wp2_with (go_at_call 38; refine HC.out.mono ?_; rintro e w3 ⟨rfl, b3⟩; have HB3 := Hd (to_ HBE.out b3); obtain ⟨hb9, hk0, hk1⟩ := HX.out w3 HB3.out; have q0 : w3.cell? ⟨w.heap.size, 0, none⟩ = some (.slice none 0 0) := hk0.cell 0; have q1 : w3.cell? ⟨w.heap.size, 1, none⟩ = some (.slice none 0 0) := hk0.cell 1; have q2 : w3.cell? ⟨w.heap.size, 2, none⟩ = some (.int .i64 0) := hk0.cell 2; have g0 := hk0.frozen 0; have g1 := hk0.frozen 1; have g2 := hk0.frozen 2; have p0 : w3.cell? ⟨w.heap.size + 1, 0, none⟩ = some (.int .i64 0) := hk1.cell 0; have p1 : w3.cell? ⟨w.heap.size + 1, 1, none⟩ = some (.int .i64 0) := hk1.cell 1; have p2 : w3.cell? ⟨w.heap.size + 1, 2, none⟩ = some (.int .i64 0) := hk1.cell 2; have f0 := hk1.frozen 0; have f1 := hk1.frozen 1; have f2 := hk1.frozen 2; have hl0 := hk0.lt; have hl1 := hk1.lt; have HK0 := Hd hk0; have HK1 := Hd hk1; have HB9 := Hd hb9; clear hk0 hk1 hb9; clear b3)
     have h0 : Blk ((((((w3.setCell ⟨w.heap.size, 0, none⟩ (.slice none 0 0)).setCell ⟨w.heap.size, 1, none⟩ (.slice none 0 0)).setCell ⟨w.heap.size, 2, none⟩ (.int .i64 0)).setCell ⟨w.heap.size + 1, 0, none⟩ (.int .i64 x)).setCell ⟨w.heap.size + 1, 1, none⟩ (.int .i64 (i : Int))).setCell ⟨w.heap.size + 1, 2, none⟩ (.int .i64 y)) w.heap.size 29 #[.slice none 0 0, .slice none 0 0, .int .i64 0] := blk_far (blk_far (blk_far (((HK0.out.stored 0 _).stored 1 _).stored 2 _) (by show w.heap.size ≠ w.heap.size + 1; omega)) (by show w.heap.size ≠ w.heap.size + 1; omega)) (by show w.heap.size ≠ w.heap.size + 1; omega)
     have h1 : Blk ((((((w3.setCell ⟨w.heap.size, 0, none⟩ (.slice none 0 0)).setCell ⟨w.heap.size, 1, none⟩ (.slice none 0 0)).setCell ⟨w.heap.size, 2, none⟩ (.int .i64 0)).setCell ⟨w.heap.size + 1, 0, none⟩ (.int .i64 x)).setCell ⟨w.heap.size + 1, 1, none⟩ (.int .i64 (i : Int))).setCell ⟨w.heap.size + 1, 2, none⟩ (.int .i64 y)) (w.heap.size + 1) 32 #[.int .i64 x, .int .i64 (i : Int), .int .i64 y] := (((blk_far (blk_far (blk_far HK1.out (by show w.heap.size + 1 ≠ w.heap.size; omega)) (by show w.heap.size + 1 ≠ w.heap.size; omega)) (by show w.heap.size + 1 ≠ w.heap.size; omega)).stored 0 _).stored 1 _).stored 2 _
     have c0 := h0.cell 0
     have c1 := h0.cell 1
     have c2 := h0.cell 2
     have d0 := h1.cell 0
     have d1 := h1.cell 1
     have d2 := h1.cell 2
     rw [HR.out]
     refine bodyPost_ret (v := .tuple #[zP, .agg #[.int .i64 x, .int .i64 (i : Int), .int .i64 y]]) (by simp [results, Tryz.results11, go_sem, zP, c0, c1, c2, d0, d1, d2]) rfl ⟨rfl, ?_⟩
     exact ((((((HB9.out.setCell (p := ⟨w.heap.size, 0, none⟩) (by simp) _).setCell (p := ⟨w.heap.size, 1, none⟩) (by simp) _).setCell (p := ⟨w.heap.size, 2, none⟩) (by simp) _).setCell (p := ⟨w.heap.size + 1, 0, none⟩) (by simp) _).setCell (p := ⟨w.heap.size + 1, 1, none⟩) (by simp) _).setCell (p := ⟨w.heap.size + 1, 2, none⟩) (by simp) _)
   ·obtain rfl : n = i := by omega
    have HFN := Hd (HBF.out HNO.out)
    have HB1 := Hd (HX.out wr HBE.out).1
    have HSC := Hd (rcheck_any A n c wr.heap.size (symsO os) wr (HFS.out wr HB1.out) (Nat.le_refl _))
    have HFI := Hd (fun W (hw : Below w.heap.size w W) => rfind_any A n c W.heap.size (symsO os) nm W (HFS.out W hw) (Nat.le_refl _))
    have HOKS := Hd (fun h => (check_ok (L := symsO os) h).2.2.2)
    have HGA := Hd (show ∀ j, j < n → Good (ojAt os j) (vf j) (de j) from fun j hj => HGD.out j hj (by have := HNO.out j hj; simpa using this))
    obtain ⟨⟨ra, rb, rc⟩, hr⟩ : ∃ r, checkV (symsO os) = r := ⟨_, rfl⟩
    rw [hr] at HSC HFN HOKS
    unfold chkE at HSC
    dsimp only at HSC HFN HOKS
    clear hr
    by_cases r0 : ra = 0
    rotate_left
    ·have r0' : (ra != 0) = true := by simp [r0]
     have HR := Hd (show bv = some (ra, rb, rc) from by rw [HFN.out, if_pos r0])
     clear r0
     go_wp2_with (go_at_call 39; refine HSC.out.mono ?_; rintro e w3 ⟨rfl, b3⟩; have HB3 := Hd (to_ HBE.out b3); obtain ⟨hb9, hk0, hk1⟩ := HX.out w3 HB3.out; have q0 : w3.cell? ⟨w.heap.size, 0, none⟩ = some (.slice none 0 0) := hk0.cell 0; have q1 : w3.cell? ⟨w.heap.size, 1, none⟩ = some (.slice none 0 0) := hk0.cell 1; have q2 : w3.cell? ⟨w.heap.size, 2, none⟩ = some (.int .i64 0) := hk0.cell 2; have g0 := hk0.frozen 0; have g1 := hk0.frozen 1; have g2 := hk0.frozen 2; have p0 : w3.cell? ⟨w.heap.size + 1, 0, none⟩ = some (.int .i64 0) := hk1.cell 0; have p1 : w3.cell? ⟨w.heap.size + 1, 1, none⟩ = some (.int .i64 0) := hk1.cell 1; have p2 : w3.cell? ⟨w.heap.size + 1, 2, none⟩ = some (.int .i64 0) := hk1.cell 2; have f0 := hk1.frozen 0; have f1 := hk1.frozen 1; have f2 := hk1.frozen 2; have hl0 := hk0.lt; have hl1 := hk1.lt; have HK0 := Hd hk0; have HK1 := Hd hk1; have HB9 := Hd hb9; clear hk0 hk1 hb9; clear b3)
     obtain ⟨W4, hW4⟩ : ∃ W4, w3.alloc (.cells #[.int .i64 ra, .int .i64 rb, .int .i64 rc] 32) = W4 := ⟨_, rfl⟩
     have hb4 : Below w3.heap.size w3 W4 := by rw [← hW4]; exact alloc_ _ _
     have hbk : Blk W4 w3.heap.size 32 #[.int .i64 ra, .int .i64 rb, .int .i64 rc] := by rw [← hW4]; exact Blk.new _ _ _
     have e0 := hbk.cell 0
     have e1 := hbk.cell 1
     have e2 := hbk.cell 2
     have hb40 := to_ HB9.out hb4
     have hk40 : Blk W4 w.heap.size 29 #[.slice none 0 0, .slice none 0 0, .int .i64 0] := HK0.out.below hb4 HK0.out.lt
     have hk41 : Blk W4 (w.heap.size + 1) 32 #[.int .i64 0, .int .i64 0, .int .i64 0] := HK1.out.below hb4 HK1.out.lt
     rw [hW4]
     clear hW4 q0 q1 q2 g0 g1 g2 p0 p1 p2 f0 f1 f2
     have q0 : W4.cell? ⟨w.heap.size, 0, none⟩ = some (.slice none 0 0) := hk40.cell 0
     have q1 : W4.cell? ⟨w.heap.size, 1, none⟩ = some (.slice none 0 0) := hk40.cell 1
     have q2 : W4.cell? ⟨w.heap.size, 2, none⟩ = some (.int .i64 0) := hk40.cell 2
     have g0 := hk40.frozen 0
     have g1 := hk40.frozen 1
     have g2 := hk40.frozen 2
     have p0 : W4.cell? ⟨w.heap.size + 1, 0, none⟩ = some (.int .i64 0) := hk41.cell 0
     have p1 : W4.cell? ⟨w.heap.size + 1, 1, none⟩ = some (.int .i64 0) := hk41.cell 1
     have p2 : W4.cell? ⟨w.heap.size + 1, 2, none⟩ = some (.int .i64 0) := hk41.cell 2
     have f0 := hk41.frozen 0
     have f1 := hk41.frozen 1
     have f2 := hk41.frozen 2
     have HKK := Hd (And.intro hk40 (And.intro hk41 hb40))
     clear hk40 hk41 hb40 hbk hb4
     refine wp_region_noPanic ?_
     refine wp_region_held_drew (S := fun W => W.cell? ⟨w3.heap.size, 0, none⟩ = some (.int .i64 ra) ∧ W.cell? ⟨w3.heap.size, 1, none⟩ = some (.int .i64 rb) ∧ W.cell? ⟨w3.heap.size, 2, none⟩ = some (.int .i64 rc)) (by kernel_rfl) (⟨e0, e1, e2⟩) (fun hHeld => ?_)
     refine tk2Z 0 1 hHeld ?_
     refine rd1Z 2 (fun K hK => ?_)
     go_simp
     have z0 : ((((W4).setCell ⟨w.heap.size, 0, none⟩ (.slice none 0 0)).setCell ⟨w.heap.size, 1, none⟩ (.slice none 0 0)).setCell ⟨w.heap.size, 2, none⟩ (.int .i64 0)).cell? ⟨w3.heap.size, 0, none⟩ = some (.int .i64 ra) := cell_far (cell_far (cell_far e0 (by show w3.heap.size ≠ w.heap.size; omega)) (by show w3.heap.size ≠ w.heap.size; omega)) (by show w3.heap.size ≠ w.heap.size; omega)
     have z1 : ((((W4).setCell ⟨w.heap.size, 0, none⟩ (.slice none 0 0)).setCell ⟨w.heap.size, 1, none⟩ (.slice none 0 0)).setCell ⟨w.heap.size, 2, none⟩ (.int .i64 0)).cell? ⟨w3.heap.size, 1, none⟩ = some (.int .i64 rb) := cell_far (cell_far (cell_far e1 (by show w3.heap.size ≠ w.heap.size; omega)) (by show w3.heap.size ≠ w.heap.size; omega)) (by show w3.heap.size ≠ w.heap.size; omega)
     have z2 : ((((W4).setCell ⟨w.heap.size, 0, none⟩ (.slice none 0 0)).setCell ⟨w.heap.size, 1, none⟩ (.slice none 0 0)).setCell ⟨w.heap.size, 2, none⟩ (.int .i64 0)).cell? ⟨w3.heap.size, 2, none⟩ = some (.int .i64 rc) := cell_far (cell_far (cell_far e2 (by show w3.heap.size ≠ w.heap.size; omega)) (by show w3.heap.size ≠ w.heap.size; omega)) (by show w3.heap.size ≠ w.heap.size; omega)
     refine hK.out _ _ (⟨cell_drew z0, cell_drew z1, cell_drew z2⟩) ?_
     clear hK K hHeld
     intro hHeld
     try simp only [Act.put, nmZ]
     refine rd1Z 3 (fun K hK => ?_)
     go_simp
     have t0 : (((((((W4).setCell ⟨w.heap.size, 0, none⟩ (.slice none 0 0)).setCell ⟨w.heap.size, 1, none⟩ (.slice none 0 0)).setCell ⟨w.heap.size, 2, none⟩ (.int .i64 0)).setCell ⟨w.heap.size + 1, 0, none⟩ (.int .i64 ra)).setCell ⟨w.heap.size + 1, 1, none⟩ (.int .i64 rb)).setCell ⟨w.heap.size + 1, 2, none⟩ (.int .i64 rc)).cell? ⟨w3.heap.size, 0, none⟩ = some (.int .i64 ra) := cell_far (cell_far (cell_far z0 (by show w3.heap.size ≠ w.heap.size + 1; omega)) (by show w3.heap.size ≠ w.heap.size + 1; omega)) (by show w3.heap.size ≠ w.heap.size + 1; omega)
     have t1 : (((((((W4).setCell ⟨w.heap.size, 0, none⟩ (.slice none 0 0)).setCell ⟨w.heap.size, 1, none⟩ (.slice none 0 0)).setCell ⟨w.heap.size, 2, none⟩ (.int .i64 0)).setCell ⟨w.heap.size + 1, 0, none⟩ (.int .i64 ra)).setCell ⟨w.heap.size + 1, 1, none⟩ (.int .i64 rb)).setCell ⟨w.heap.size + 1, 2, none⟩ (.int .i64 rc)).cell? ⟨w3.heap.size, 1, none⟩ = some (.int .i64 rb) := cell_far (cell_far (cell_far z1 (by show w3.heap.size ≠ w.heap.size + 1; omega)) (by show w3.heap.size ≠ w.heap.size + 1; omega)) (by show w3.heap.size ≠ w.heap.size + 1; omega)
     have t2 : (((((((W4).setCell ⟨w.heap.size, 0, none⟩ (.slice none 0 0)).setCell ⟨w.heap.size, 1, none⟩ (.slice none 0 0)).setCell ⟨w.heap.size, 2, none⟩ (.int .i64 0)).setCell ⟨w.heap.size + 1, 0, none⟩ (.int .i64 ra)).setCell ⟨w.heap.size + 1, 1, none⟩ (.int .i64 rb)).setCell ⟨w.heap.size + 1, 2, none⟩ (.int .i64 rc)).cell? ⟨w3.heap.size, 2, none⟩ = some (.int .i64 rc) := cell_far (cell_far (cell_far z2 (by show w3.heap.size ≠ w.heap.size + 1; omega)) (by show w3.heap.size ≠ w.heap.size + 1; omega)) (by show w3.heap.size ≠ w.heap.size + 1; omega)
     refine hK.out _ _ (⟨cell_drew t0, cell_drew t1, cell_drew t2⟩) ?_
     clear hK K hHeld
     intro hHeld
     try simp only [Act.put, nmZ]
     clear z0 z1 z2 t0 t1 t2
     obtain ⟨hk40, hk41, hb40⟩ := HKK.out
     refine wpAnyH_done (by kernel_rfl) ?_ _
     refine NoPanic.normal ?_
     have h0 : Blk (((((((W4).setCell ⟨w.heap.size, 0, none⟩ (.slice none 0 0)).setCell ⟨w.heap.size, 1, none⟩ (.slice none 0 0)).setCell ⟨w.heap.size, 2, none⟩ (.int .i64 0)).setCell ⟨w.heap.size + 1, 0, none⟩ (.int .i64 ra)).setCell ⟨w.heap.size + 1, 1, none⟩ (.int .i64 rb)).setCell ⟨w.heap.size + 1, 2, none⟩ (.int .i64 rc)) w.heap.size 29 #[.slice none 0 0, .slice none 0 0, .int .i64 0] := blk_far (blk_far (blk_far (((hk40.stored 0 _).stored 1 _).stored 2 _) (by show w.heap.size ≠ w.heap.size + 1; omega)) (by show w.heap.size ≠ w.heap.size + 1; omega)) (by show w.heap.size ≠ w.heap.size + 1; omega)
     have h1 : Blk (((((((W4).setCell ⟨w.heap.size, 0, none⟩ (.slice none 0 0)).setCell ⟨w.heap.size, 1, none⟩ (.slice none 0 0)).setCell ⟨w.heap.size, 2, none⟩ (.int .i64 0)).setCell ⟨w.heap.size + 1, 0, none⟩ (.int .i64 ra)).setCell ⟨w.heap.size + 1, 1, none⟩ (.int .i64 rb)).setCell ⟨w.heap.size + 1, 2, none⟩ (.int .i64 rc)) (w.heap.size + 1) 32 #[.int .i64 ra, .int .i64 rb, .int .i64 rc] := (((blk_far (blk_far (blk_far hk41 (by show w.heap.size + 1 ≠ w.heap.size; omega)) (by show w.heap.size + 1 ≠ w.heap.size; omega)) (by show w.heap.size + 1 ≠ w.heap.size; omega)).stored 0 _).stored 1 _).stored 2 _
     have c0 := h0.cell 0
     have c1 := h0.cell 1
     have c2 := h0.cell 2
     have d0 := h1.cell 0
     have d1 := h1.cell 1
     have d2 := h1.cell 2
     have H0 := Hd h0
     clear h0 h1 hHeld
     go_wp2_with fail
     rw [HR.out]
     refine bodyPost_ret (v := .tuple #[zP, .agg #[.int .i64 ra, .int .i64 rb, .int .i64 rc]]) (by simp [results, Tryz.results11, go_sem, zP, c0, c1, c2, d0, d1, d2]) rfl ⟨rfl, ?_⟩
     exact Below.drew (((((((hb40).setCell (p := ⟨w.heap.size, 0, none⟩) (by simp) _).setCell (p := ⟨w.heap.size, 1, none⟩) (by simp) _).setCell (p := ⟨w.heap.size, 2, none⟩) (by simp) _).setCell (p := ⟨w.heap.size + 1, 0, none⟩) (by simp) _).setCell (p := ⟨w.heap.size + 1, 1, none⟩) (by simp) _).setCell (p := ⟨w.heap.size + 1, 2, none⟩) (by simp) _)
    ·have r0' : (ra != 0) = false := by simp [r0]
     have HFN := Hd (show bv = if entB (symsO os) nm = true then none else some (15, -1, -1) from by rw [HFN.out, if_neg (by simpa using r0)])
     have HLS := Hd (HOKS.out r0)
     clear r0
     cases hf : findV (symsO os) nm with
     | none =>
      have HR := Hd (show bv = some (15, -1, -1) from by rw [HFN.out]; unfold entB; rw [hf]; rfl)
      rw [hf] at HFI
      unfold findE at HFI
      dsimp only [Option.getD, Option.isSome] at HFI
      clear hf
      go_wp2_with (go_at_call 39; refine HSC.out.mono ?_; rintro e w3 ⟨rfl, b3⟩; have HB3 := Hd (to_ HBE.out b3); have HA3 := Hd (HX.out w3 HB3.out).1; clear b3; go_wp2_with (go_at_call 40; refine (HFI.out _ (to_ HA3.out (alloc_ _ _))).mono ?_; rintro e w4 ⟨rfl, b4⟩; have HB4 := Hd (to_ (to_ HB3.out (alloc_ _ _)) b4); obtain ⟨hb9, hk0, hk1⟩ := HX.out w4 HB4.out; have q0 : w4.cell? ⟨w.heap.size, 0, none⟩ = some (.slice none 0 0) := hk0.cell 0; have q1 : w4.cell? ⟨w.heap.size, 1, none⟩ = some (.slice none 0 0) := hk0.cell 1; have q2 : w4.cell? ⟨w.heap.size, 2, none⟩ = some (.int .i64 0) := hk0.cell 2; have g0 := hk0.frozen 0; have g1 := hk0.frozen 1; have g2 := hk0.frozen 2; have p0 : w4.cell? ⟨w.heap.size + 1, 0, none⟩ = some (.int .i64 0) := hk1.cell 0; have p1 : w4.cell? ⟨w.heap.size + 1, 1, none⟩ = some (.int .i64 0) := hk1.cell 1; have p2 : w4.cell? ⟨w.heap.size + 1, 2, none⟩ = some (.int .i64 0) := hk1.cell 2; have f0 := hk1.frozen 0; have f1 := hk1.frozen 1; have f2 := hk1.frozen 2; have hl0 := hk0.lt; have hl1 := hk1.lt; have HK0 := Hd hk0; have HK1 := Hd hk1; have HB9 := Hd hb9; clear hk0 hk1 hb9; clear b4))
      have h0 : Blk ((((((w4.setCell ⟨w.heap.size, 0, none⟩ (.slice none 0 0)).setCell ⟨w.heap.size, 1, none⟩ (.slice none 0 0)).setCell ⟨w.heap.size, 2, none⟩ (.int .i64 0)).setCell ⟨w.heap.size + 1, 0, none⟩ (.int .i64 15)).setCell ⟨w.heap.size + 1, 1, none⟩ (.int .i64 (-1))).setCell ⟨w.heap.size + 1, 2, none⟩ (.int .i64 (-1))) w.heap.size 29 #[.slice none 0 0, .slice none 0 0, .int .i64 0] := blk_far (blk_far (blk_far (((HK0.out.stored 0 _).stored 1 _).stored 2 _) (by show w.heap.size ≠ w.heap.size + 1; omega)) (by show w.heap.size ≠ w.heap.size + 1; omega)) (by show w.heap.size ≠ w.heap.size + 1; omega)
      have h1 : Blk ((((((w4.setCell ⟨w.heap.size, 0, none⟩ (.slice none 0 0)).setCell ⟨w.heap.size, 1, none⟩ (.slice none 0 0)).setCell ⟨w.heap.size, 2, none⟩ (.int .i64 0)).setCell ⟨w.heap.size + 1, 0, none⟩ (.int .i64 15)).setCell ⟨w.heap.size + 1, 1, none⟩ (.int .i64 (-1))).setCell ⟨w.heap.size + 1, 2, none⟩ (.int .i64 (-1))) (w.heap.size + 1) 32 #[.int .i64 15, .int .i64 (-1), .int .i64 (-1)] := (((blk_far (blk_far (blk_far HK1.out (by show w.heap.size + 1 ≠ w.heap.size; omega)) (by show w.heap.size + 1 ≠ w.heap.size; omega)) (by show w.heap.size + 1 ≠ w.heap.size; omega)).stored 0 _).stored 1 _).stored 2 _
      have c0 := h0.cell 0
      have c1 := h0.cell 1
      have c2 := h0.cell 2
      have d0 := h1.cell 0
      have d1 := h1.cell 1
      have d2 := h1.cell 2
      rw [HR.out]
      refine bodyPost_ret (v := .tuple #[zP, .agg #[.int .i64 15, .int .i64 (-1), .int .i64 (-1)]]) (by simp [results, Tryz.results11, go_sem, zP, c0, c1, c2, d0, d1, d2]) rfl ⟨rfl, ?_⟩
      exact ((((((HB9.out.setCell (p := ⟨w.heap.size, 0, none⟩) (by simp) _).setCell (p := ⟨w.heap.size, 1, none⟩) (by simp) _).setCell (p := ⟨w.heap.size, 2, none⟩) (by simp) _).setCell (p := ⟨w.heap.size + 1, 0, none⟩) (by simp) _).setCell (p := ⟨w.heap.size + 1, 1, none⟩) (by simp) _).setCell (p := ⟨w.heap.size + 1, 2, none⟩) (by simp) _)
     | some q =>
      obtain ⟨qa, qb⟩ := q
      obtain ⟨q1, q2, -, -⟩ := findV_some hf
      dsimp only at q1 q2
      have hqa : qa < n := by rw [symsO_length, HLO.out] at q1; exact q1
      have hqb : qb < (ojAt os qa).n := by
       rw [rowS_symsO (by rw [HLO.out]; exact hqa), (HBX.out.mem.each qa hqa).sy.1] at q2; exact q2
      have hat : atS (symsO os) qa qb = syAt (ojAt os qa).l qb := by unfold atS; rw [rowS_symsO (by rw [HLO.out]; exact hqa)]
      have HFN := Hd (show bv = if decide ((syAt (ojAt os qa).l qb).2.2.1 = 1 ∧ (syAt (ojAt os qa).l qb).2.2.2.1 ≤ 1) = true then none else some (15, -1, -1) from by rw [HFN.out]; unfold entB; rw [hf, ← hat])
      have HFQ := Hd hf
      rw [hf] at HFI
      unfold findE at HFI
      dsimp only [Option.getD, Option.isSome] at HFI
      have HS1 := Hd (fun W (hw : Below w.heap.size w W) => ((HBX.out.mem.on hw).each qa hqa).sy.at_ hqb)
      have HA1 := Hd (fun W (hw : Below w.heap.size w W) => HAT.out W hw qa hqa)
      have HPX := Hd (fun W (hw : Below w.heap.size w W) => HBX.out.px HGA.out HLS.out hw)
      have HNU := Hd (fun W (hw : Below w.heap.size w W) => (HPX.out w (Below.refl _ _)).num W hw qa hqa qb hqb)
      have hqa0 : (0 : Int) ≤ (qa : Int) := by omega
      have hqa1 : (qa : Int) < (n : Int) := by omega
      have hqb0 : (0 : Int) ≤ (qb : Int) := by omega
      obtain ⟨⟨y0, y1, y2, y3, y4⟩, hy⟩ : ∃ y, syAt (ojAt os qa).l qb = y := ⟨_, rfl⟩
      rw [hy] at HS1 HFN
      dsimp only at HS1 HFN
      obtain ⟨⟨oA, on, oc, ol, fA, fn, fc, fl, dA, dn, dc, dl⟩, ho⟩ : ∃ o, ojAt os qa = o := ⟨_, rfl⟩
      rw [ho] at HS1 HA1 hqb
      dsimp only at HS1 HA1 hqb
      have hqb1 : (qb : Int) < (on : Int) := by omega
      obtain ⟨ad, rfl, -⟩ := HA1.out w (Below.refl _ _)
      obtain ⟨sa, rfl, -⟩ := HS1.out w (Below.refl _ _)
      clear hf q1 q2 hat hy ho hqa hqb
      by_cases k1 : y2 = 1
      ·have k1' : (y2 != 1) = false := by simp [k1]
       by_cases k2 : (1 : Int) < y3
       ·have HR := Hd (show bv = some (15, -1, -1) from by rw [HFN.out, decide_eq_false (by omega)]; rfl)
        clear k1
        go_wp2_with (go_at_call 39; refine HSC.out.mono ?_; rintro e w3 ⟨rfl, b3⟩; have HB3 := Hd (to_ HBE.out b3); have HA3 := Hd (HX.out w3 HB3.out).1; clear b3; go_wp2_with (go_at_call 40; refine (HFI.out _ (to_ HA3.out (alloc_ _ _))).mono ?_; rintro e w4 ⟨rfl, b4⟩; have HB4 := Hd (to_ (to_ HB3.out (alloc_ _ _)) b4); obtain ⟨hb9, hk0, hk1⟩ := HX.out w4 HB4.out; have q0 : w4.cell? ⟨w.heap.size, 0, none⟩ = some (.slice none 0 0) := hk0.cell 0; have q1 : w4.cell? ⟨w.heap.size, 1, none⟩ = some (.slice none 0 0) := hk0.cell 1; have q2 : w4.cell? ⟨w.heap.size, 2, none⟩ = some (.int .i64 0) := hk0.cell 2; have g0 := hk0.frozen 0; have g1 := hk0.frozen 1; have g2 := hk0.frozen 2; have p0 : w4.cell? ⟨w.heap.size + 1, 0, none⟩ = some (.int .i64 0) := hk1.cell 0; have p1 : w4.cell? ⟨w.heap.size + 1, 1, none⟩ = some (.int .i64 0) := hk1.cell 1; have p2 : w4.cell? ⟨w.heap.size + 1, 2, none⟩ = some (.int .i64 0) := hk1.cell 2; have f0 := hk1.frozen 0; have f1 := hk1.frozen 1; have f2 := hk1.frozen 2; have hl0 := hk0.lt; have hl1 := hk1.lt; have HK0 := Hd hk0; have HK1 := Hd hk1; have HB9 := Hd hb9; clear hk0 hk1 hb9; obtain ⟨ae, ee, hz1, a0, a1, a2⟩ := HA1.out w4 HB9.out; obtain rfl := Option.some.inj ee; clear ee; obtain ⟨se, es, hz2, s0, s1, s2, s3, s4⟩ := HS1.out w4 HB9.out; obtain rfl := Option.some.inj es; clear es; clear b4))
        have h0 : Blk ((((((w4.setCell ⟨w.heap.size, 0, none⟩ (.slice none 0 0)).setCell ⟨w.heap.size, 1, none⟩ (.slice none 0 0)).setCell ⟨w.heap.size, 2, none⟩ (.int .i64 0)).setCell ⟨w.heap.size + 1, 0, none⟩ (.int .i64 15)).setCell ⟨w.heap.size + 1, 1, none⟩ (.int .i64 (-1))).setCell ⟨w.heap.size + 1, 2, none⟩ (.int .i64 (-1))) w.heap.size 29 #[.slice none 0 0, .slice none 0 0, .int .i64 0] := blk_far (blk_far (blk_far (((HK0.out.stored 0 _).stored 1 _).stored 2 _) (by show w.heap.size ≠ w.heap.size + 1; omega)) (by show w.heap.size ≠ w.heap.size + 1; omega)) (by show w.heap.size ≠ w.heap.size + 1; omega)
        have h1 : Blk ((((((w4.setCell ⟨w.heap.size, 0, none⟩ (.slice none 0 0)).setCell ⟨w.heap.size, 1, none⟩ (.slice none 0 0)).setCell ⟨w.heap.size, 2, none⟩ (.int .i64 0)).setCell ⟨w.heap.size + 1, 0, none⟩ (.int .i64 15)).setCell ⟨w.heap.size + 1, 1, none⟩ (.int .i64 (-1))).setCell ⟨w.heap.size + 1, 2, none⟩ (.int .i64 (-1))) (w.heap.size + 1) 32 #[.int .i64 15, .int .i64 (-1), .int .i64 (-1)] := (((blk_far (blk_far (blk_far HK1.out (by show w.heap.size + 1 ≠ w.heap.size; omega)) (by show w.heap.size + 1 ≠ w.heap.size; omega)) (by show w.heap.size + 1 ≠ w.heap.size; omega)).stored 0 _).stored 1 _).stored 2 _
        have c0 := h0.cell 0
        have c1 := h0.cell 1
        have c2 := h0.cell 2
        have d0 := h1.cell 0
        have d1 := h1.cell 1
        have d2 := h1.cell 2
        rw [HR.out]
        refine bodyPost_ret (v := .tuple #[zP, .agg #[.int .i64 15, .int .i64 (-1), .int .i64 (-1)]]) (by simp [results, Tryz.results11, go_sem, zP, c0, c1, c2, d0, d1, d2]) rfl ⟨rfl, ?_⟩
        exact ((((((HB9.out.setCell (p := ⟨w.heap.size, 0, none⟩) (by simp) _).setCell (p := ⟨w.heap.size, 1, none⟩) (by simp) _).setCell (p := ⟨w.heap.size, 2, none⟩) (by simp) _).setCell (p := ⟨w.heap.size + 1, 0, none⟩) (by simp) _).setCell (p := ⟨w.heap.size + 1, 1, none⟩) (by simp) _).setCell (p := ⟨w.heap.size + 1, 2, none⟩) (by simp) _)
       ·have HR := Hd (show bv = none from by rw [HFN.out, decide_eq_true ⟨k1, by omega⟩]; rfl)
        clear k1
        go_wp2_with (go_at_call 39; refine HSC.out.mono ?_; rintro e w3 ⟨rfl, b3⟩; have HB3 := Hd (to_ HBE.out b3); have HA3 := Hd (HX.out w3 HB3.out).1; clear b3; go_wp2_with (go_at_call 40; refine (HFI.out _ (to_ HA3.out (alloc_ _ _))).mono ?_; rintro e w4 ⟨rfl, b4⟩; have HB4 := Hd (to_ (to_ HB3.out (alloc_ _ _)) b4); obtain ⟨hb9, hk0, hk1⟩ := HX.out w4 HB4.out; have q0 : w4.cell? ⟨w.heap.size, 0, none⟩ = some (.slice none 0 0) := hk0.cell 0; have q1 : w4.cell? ⟨w.heap.size, 1, none⟩ = some (.slice none 0 0) := hk0.cell 1; have q2 : w4.cell? ⟨w.heap.size, 2, none⟩ = some (.int .i64 0) := hk0.cell 2; have g0 := hk0.frozen 0; have g1 := hk0.frozen 1; have g2 := hk0.frozen 2; have p0 : w4.cell? ⟨w.heap.size + 1, 0, none⟩ = some (.int .i64 0) := hk1.cell 0; have p1 : w4.cell? ⟨w.heap.size + 1, 1, none⟩ = some (.int .i64 0) := hk1.cell 1; have p2 : w4.cell? ⟨w.heap.size + 1, 2, none⟩ = some (.int .i64 0) := hk1.cell 2; have f0 := hk1.frozen 0; have f1 := hk1.frozen 1; have f2 := hk1.frozen 2; have hl0 := hk0.lt; have hl1 := hk1.lt; have HK0 := Hd hk0; have HK1 := Hd hk1; have HB9 := Hd hb9; clear hk0 hk1 hb9; obtain ⟨ae, ee, hz1, a0, a1, a2⟩ := HA1.out w4 HB9.out; obtain rfl := Option.some.inj ee; clear ee; obtain ⟨se, es, hz2, s0, s1, s2, s3, s4⟩ := HS1.out w4 HB9.out; obtain rfl := Option.some.inj es; clear es; clear b4))
        clear a0 a1 a2 s0 s1 s2 s3 s4
        clear q0 q1 q2 g0 g1 g2 p0 p1 p2 f0 f1 f2 hl0 hl1
        have HPR := Hd (program_any w4 (some ad) n c os sv dv (HPX.out w4 HB9.out))
        clear HSC HFI HFS
        go_wp2_with (go_at_call 41; refine HPR.out.mono ?_; rintro e w5 ⟨fs, ds, v1, v2, rfl, hfo, hdo, b5, hpo⟩; obtain ⟨pA, pc, rfl⟩ := own_form hpo.fr; obtain ⟨rA, rc9, rfl⟩ := own_form hpo.dr; have HFO := Hd hfo; have HDO := Hd hdo; have HPO := Hd hpo; have HB5 := Hd b5; have HB5w := Hd (to_ HB9.out b5); clear hfo hdo hpo b5; go_wp2_with (go_at_call 42; refine (HNU.out _ (to_ HB5w.out (alloc_ _ _))).mono ?_; rintro e w6 ⟨rfl, b6⟩; have hb7 := (Blk.new w5 29 #[.slice pA fs.length pc, .slice rA ds.length rc9, .int .i64 0]).below b6 (by simp); have x0 : w6.cell? ⟨w5.heap.size, 0, none⟩ = some (.slice pA fs.length pc) := hb7.cell 0; have x1 : w6.cell? ⟨w5.heap.size, 1, none⟩ = some (.slice rA ds.length rc9) := hb7.cell 1; have x2 : w6.cell? ⟨w5.heap.size, 2, none⟩ = some (.int .i64 0) := hb7.cell 2; have y2 := hb7.frozen 2; have HB7 := Hd hb7; have h46 := to_ HB5.out (to_ (alloc_ _ _) b6); have hk0 := HK0.out.below h46 HK0.out.lt; have hk1 := HK1.out.below h46 HK1.out.lt; have q0 : w6.cell? ⟨w.heap.size, 0, none⟩ = some (.slice none 0 0) := hk0.cell 0; have q1 : w6.cell? ⟨w.heap.size, 1, none⟩ = some (.slice none 0 0) := hk0.cell 1; have q2 : w6.cell? ⟨w.heap.size, 2, none⟩ = some (.int .i64 0) := hk0.cell 2; have g0 := hk0.frozen 0; have g1 := hk0.frozen 1; have g2 := hk0.frozen 2; have p0 : w6.cell? ⟨w.heap.size + 1, 0, none⟩ = some (.int .i64 0) := hk1.cell 0; have p1 : w6.cell? ⟨w.heap.size + 1, 1, none⟩ = some (.int .i64 0) := hk1.cell 1; have p2 : w6.cell? ⟨w.heap.size + 1, 2, none⟩ = some (.int .i64 0) := hk1.cell 2; have f0 := hk1.frozen 0; have f1 := hk1.frozen 1; have f2 := hk1.frozen 2; have hl0 := hk0.lt; have hl1 := hk1.lt; have hl5 : w.heap.size + 1 < w5.heap.size := Nat.lt_of_lt_of_le HK1.out.lt HB5.out.size; have hl5' : w.heap.size < w5.heap.size := Nat.lt_of_lt_of_le HK0.out.lt HB5.out.size; have HK06 := Hd hk0; have HK16 := Hd hk1; have HPO6 := Hd (HPO.out.later (to_ (alloc_ _ _) b6)); have HB6 := Hd (to_ HB9.out h46); clear b6 hb7 h46 hk0 hk1))
        have h7 : Blk (w6.setCell ⟨w5.heap.size, 2, none⟩ (.int .i64 (numV os qa qb))) w.heap.size 29 _ := blk_far HK06.out (by show w.heap.size ≠ w5.heap.size; omega)
        have h8 : Blk (w6.setCell ⟨w5.heap.size, 2, none⟩ (.int .i64 (numV os qa qb))) (w.heap.size + 1) 32 _ := blk_far HK16.out (by show w.heap.size + 1 ≠ w5.heap.size; omega)
        have h0 : Blk (((((((w6.setCell ⟨w5.heap.size, 2, none⟩ (.int .i64 (numV os qa qb))).setCell ⟨w.heap.size, 0, none⟩ (.slice pA fs.length pc)).setCell ⟨w.heap.size, 1, none⟩ (.slice rA ds.length rc9)).setCell ⟨w.heap.size, 2, none⟩ (.int .i64 (numV os qa qb))).setCell ⟨w.heap.size + 1, 0, none⟩ (.int .i64 0)).setCell ⟨w.heap.size + 1, 1, none⟩ (.int .i64 0)).setCell ⟨w.heap.size + 1, 2, none⟩ (.int .i64 0)) w.heap.size 29 #[.slice pA fs.length pc, .slice rA ds.length rc9, .int .i64 (numV os qa qb)] := blk_far (blk_far (blk_far (((h7.stored 0 _).stored 1 _).stored 2 _) (by show w.heap.size ≠ w.heap.size + 1; omega)) (by show w.heap.size ≠ w.heap.size + 1; omega)) (by show w.heap.size ≠ w.heap.size + 1; omega)
        have h1 : Blk (((((((w6.setCell ⟨w5.heap.size, 2, none⟩ (.int .i64 (numV os qa qb))).setCell ⟨w.heap.size, 0, none⟩ (.slice pA fs.length pc)).setCell ⟨w.heap.size, 1, none⟩ (.slice rA ds.length rc9)).setCell ⟨w.heap.size, 2, none⟩ (.int .i64 (numV os qa qb))).setCell ⟨w.heap.size + 1, 0, none⟩ (.int .i64 0)).setCell ⟨w.heap.size + 1, 1, none⟩ (.int .i64 0)).setCell ⟨w.heap.size + 1, 2, none⟩ (.int .i64 0)) (w.heap.size + 1) 32 #[.int .i64 0, .int .i64 0, .int .i64 0] := (((blk_far (blk_far (blk_far h8 (by show w.heap.size + 1 ≠ w.heap.size; omega)) (by show w.heap.size + 1 ≠ w.heap.size; omega)) (by show w.heap.size + 1 ≠ w.heap.size; omega)).stored 0 _).stored 1 _).stored 2 _
        have c0 := h0.cell 0
        have c1 := h0.cell 1
        have c2 := h0.cell 2
        have d0 := h1.cell 0
        have d1 := h1.cell 1
        have d2 := h1.cell 2
        rw [HR.out]
        refine bodyPost_ret (v := .tuple #[.agg #[.slice pA fs.length pc, .slice rA ds.length rc9, .int .i64 (numV os qa qb)], .agg #[.int .i64 0, .int .i64 0, .int .i64 0]]) (by simp [results, Tryz.results11, go_sem, c0, c1, c2, d0, d1, d2]) rfl ⟨fs, ds, _, _, (qa, qb), rfl, HFQ.out, HFO.out, HDO.out, ?_, ?_⟩
        ·exact (((((((HB6.out.setCell (p := ⟨w5.heap.size, 2, none⟩) (by show w.heap.size ≤ w5.heap.size; omega) _).setCell (p := ⟨w.heap.size, 0, none⟩) (by simp) _).setCell (p := ⟨w.heap.size, 1, none⟩) (by simp) _).setCell (p := ⟨w.heap.size, 2, none⟩) (by simp) _).setCell (p := ⟨w.heap.size + 1, 0, none⟩) (by simp) _).setCell (p := ⟨w.heap.size + 1, 1, none⟩) (by simp) _).setCell (p := ⟨w.heap.size + 1, 2, none⟩) (by simp) _)
        ·have hq : ∀ m, m ≤ w.heap.size + 1 → m < w4.heap.size + 2 := fun m hm => by have := HK1.out.lt; omega
         exact (((((((HPO6.out.cell2 HB7.out 2 _).cell ⟨w.heap.size, 0, none⟩ _ (hq _ (by show w.heap.size ≤ _; omega))).cell ⟨w.heap.size, 1, none⟩ _ (hq _ (by show w.heap.size ≤ _; omega))).cell ⟨w.heap.size, 2, none⟩ _ (hq _ (by show w.heap.size ≤ _; omega))).cell ⟨w.heap.size + 1, 0, none⟩ _ (hq _ (Nat.le_refl _))).cell ⟨w.heap.size + 1, 1, none⟩ _ (hq _ (Nat.le_refl _))).cell ⟨w.heap.size + 1, 2, none⟩ _ (hq _ (Nat.le_refl _))).lower (by have := HK1.out.lt; omega)
      ·have k1' : (y2 != 1) = true := by simp [k1]
       have HR := Hd (show bv = some (15, -1, -1) from by rw [HFN.out, decide_eq_false (fun x => k1 x.1)]; rfl)
       clear k1
       go_wp2_with (go_at_call 39; refine HSC.out.mono ?_; rintro e w3 ⟨rfl, b3⟩; have HB3 := Hd (to_ HBE.out b3); have HA3 := Hd (HX.out w3 HB3.out).1; clear b3; go_wp2_with (go_at_call 40; refine (HFI.out _ (to_ HA3.out (alloc_ _ _))).mono ?_; rintro e w4 ⟨rfl, b4⟩; have HB4 := Hd (to_ (to_ HB3.out (alloc_ _ _)) b4); obtain ⟨hb9, hk0, hk1⟩ := HX.out w4 HB4.out; have q0 : w4.cell? ⟨w.heap.size, 0, none⟩ = some (.slice none 0 0) := hk0.cell 0; have q1 : w4.cell? ⟨w.heap.size, 1, none⟩ = some (.slice none 0 0) := hk0.cell 1; have q2 : w4.cell? ⟨w.heap.size, 2, none⟩ = some (.int .i64 0) := hk0.cell 2; have g0 := hk0.frozen 0; have g1 := hk0.frozen 1; have g2 := hk0.frozen 2; have p0 : w4.cell? ⟨w.heap.size + 1, 0, none⟩ = some (.int .i64 0) := hk1.cell 0; have p1 : w4.cell? ⟨w.heap.size + 1, 1, none⟩ = some (.int .i64 0) := hk1.cell 1; have p2 : w4.cell? ⟨w.heap.size + 1, 2, none⟩ = some (.int .i64 0) := hk1.cell 2; have f0 := hk1.frozen 0; have f1 := hk1.frozen 1; have f2 := hk1.frozen 2; have hl0 := hk0.lt; have hl1 := hk1.lt; have HK0 := Hd hk0; have HK1 := Hd hk1; have HB9 := Hd hb9; clear hk0 hk1 hb9; obtain ⟨ae, ee, hz1, a0, a1, a2⟩ := HA1.out w4 HB9.out; obtain rfl := Option.some.inj ee; clear ee; obtain ⟨se, es, hz2, s0, s1, s2, s3, s4⟩ := HS1.out w4 HB9.out; obtain rfl := Option.some.inj es; clear es; clear b4))
       have h0 : Blk ((((((w4.setCell ⟨w.heap.size, 0, none⟩ (.slice none 0 0)).setCell ⟨w.heap.size, 1, none⟩ (.slice none 0 0)).setCell ⟨w.heap.size, 2, none⟩ (.int .i64 0)).setCell ⟨w.heap.size + 1, 0, none⟩ (.int .i64 15)).setCell ⟨w.heap.size + 1, 1, none⟩ (.int .i64 (-1))).setCell ⟨w.heap.size + 1, 2, none⟩ (.int .i64 (-1))) w.heap.size 29 #[.slice none 0 0, .slice none 0 0, .int .i64 0] := blk_far (blk_far (blk_far (((HK0.out.stored 0 _).stored 1 _).stored 2 _) (by show w.heap.size ≠ w.heap.size + 1; omega)) (by show w.heap.size ≠ w.heap.size + 1; omega)) (by show w.heap.size ≠ w.heap.size + 1; omega)
       have h1 : Blk ((((((w4.setCell ⟨w.heap.size, 0, none⟩ (.slice none 0 0)).setCell ⟨w.heap.size, 1, none⟩ (.slice none 0 0)).setCell ⟨w.heap.size, 2, none⟩ (.int .i64 0)).setCell ⟨w.heap.size + 1, 0, none⟩ (.int .i64 15)).setCell ⟨w.heap.size + 1, 1, none⟩ (.int .i64 (-1))).setCell ⟨w.heap.size + 1, 2, none⟩ (.int .i64 (-1))) (w.heap.size + 1) 32 #[.int .i64 15, .int .i64 (-1), .int .i64 (-1)] := (((blk_far (blk_far (blk_far HK1.out (by show w.heap.size + 1 ≠ w.heap.size; omega)) (by show w.heap.size + 1 ≠ w.heap.size; omega)) (by show w.heap.size + 1 ≠ w.heap.size; omega)).stored 0 _).stored 1 _).stored 2 _
       have c0 := h0.cell 0
       have c1 := h0.cell 1
       have c2 := h0.cell 2
       have d0 := h1.cell 0
       have d1 := h1.cell 1
       have d2 := h1.cell 2
       rw [HR.out]
       refine bodyPost_ret (v := .tuple #[zP, .agg #[.int .i64 15, .int .i64 (-1), .int .i64 (-1)]]) (by simp [results, Tryz.results11, go_sem, zP, c0, c1, c2, d0, d1, d2]) rfl ⟨rfl, ?_⟩
       exact ((((((HB9.out.setCell (p := ⟨w.heap.size, 0, none⟩) (by simp) _).setCell (p := ⟨w.heap.size, 1, none⟩) (by simp) _).setCell (p := ⟨w.heap.size, 2, none⟩) (by simp) _).setCell (p := ⟨w.heap.size + 1, 0, none⟩) (by simp) _).setCell (p := ⟨w.heap.size + 1, 1, none⟩) (by simp) _).setCell (p := ⟨w.heap.size + 1, 2, none⟩) (by simp) _)
end Go.Proofs.YtdaimeaofgbfpaaGreat.Bo
