/-
 Qh2
-/
import Derived.Test.YtdaimeaofgbfpaaGreatZa2
import Derived.Test.YtdaimeaofgbfpaaGreatQg2
set_option linter.unusedSimpArgs false
set_option linter.unusedVariables false
namespace Go.Proofs.YtdaimeaofgbfpaaGreat.Bo
open Go.RowKit Go.Maps
open Mem Rf
theorem infoFun : (Tryz.prog.info? 51).map (fun i => (i.zero, i.size, i.bytes)) = some (some (.agg #[.int .i64 0, .int .i64 0, .string ⟨#[]⟩, .int .i64 0, .slice none 0 0, .int .i64 0, .bool false, .int .i64 0, .int .i64 0, .slice none 0 0, .slice none 0 0, .slice none 0 0, .slice none 0 0]), 13, 192) := by kernel_rfl
theorem infoDat : (Tryz.prog.info? 86).map (fun i => (i.zero, i.size, i.bytes)) = some (some (.agg #[.int .i64 0, .int .i64 0, .string ⟨#[]⟩, .int .i64 0, .slice none 0 0, .slice none 0 0, .slice none 0 0]), 7, 112) := by kernel_rfl
theorem step_append_own {P : Program} {ops : Array Oper} {o : Oper} {a : Act} {w : World} {K : Act → World → Prop} {Q : Exit → Act → World → Prop} {Z : Prop}
  (hgd : o.guard = none) (s x : Operand) (t : TypeId) (ho : o.op = .call { callee := .builtin .append, args := #[s, x], argTypes := #[t, t] })
  (base : Nat) (e : TypeId) (i : TypeInfo) (z : Value) (size bytes : Nat) (ht : P.underlying t = some (.slice e)) (hi : P.info? e = some i) (hz : i.zero = some z)
  (hsize : i.size = size) (hby : i.bytes = bytes) (hzs : z.cells.size = size) (hsz : 0 < size)
  (v : Value) (n : Nat) (xs : List Value) (hs : a.eval s = v) (hown : w.ownsRow base e size v n xs)
  (ad : Addr) (c : Nat) (news : List Value) (hx : a.eval x = .slice (some ad) 1 c) (hl : news.length = 1 * size) (hu : ∀ j u, news[j]? = some u → w.cell? (ad.add j) = some u) (h1 : ∀ u ∈ news, u.oneCell' = true)
  (h63 : n + 1 ≤ maxLen) (hbytes : (n + 1) * bytes ≤ 140737488355328) (hbase : base ≤ w.heap.size)
  (hK : ∀ v' w', w'.ownsRow base e size v' (n + 1) (xs ++ news) → w.grownBy w' v.ownBlock → K (a.put o.dst v') w') :
  if Region.wanted o (yielded ops a.tmps) = true then Oper.wp P o a w K Q else Z := by
 have hw : Region.wanted o (yielded ops a.tmps) = true := by simp [Region.wanted, hgd]
 rw [if_pos hw]
 obtain ⟨v', w', hr, h2, h3, _⟩ := run_append_own (P := P) w base t o.type e i z size bytes ht hi hz hsize hby hzs hsz v n xs hown ad 1 c news hl hu h1 h63 hbytes hbase
 unfold Oper.wp execOp
 simp only [ho, resolve, invoke, builtin, Sem.run_bind, Sem.run_pure, Result.andThen_ok, List.map_toArray, List.map_cons, List.map_nil, hs, hx, hr]
 exact hK v' w' h2 h3
theorem cells_new (W : World) (t : TypeId) (l : List Value) : ∀ j u, l[j]? = some u → (W.alloc (.cells l.toArray t)).cell? ((⟨W.heap.size, 0, none⟩ : Addr).add j) = some u := fun j u hu => by
 have h := (Blk.new W t l.toArray).cell j
 have e : (⟨W.heap.size, 0, none⟩ : Addr).add j = ⟨W.heap.size, j, none⟩ := by
  unfold Addr.add
  by_cases hj : j = 0
  ·rw [if_pos hj, hj]
  ·rw [if_neg hj, Nat.zero_add]
 rw [e, h]
 simpa using hu
theorem cell_step {w w6 : World} {p : Addr} {x : Value} {row : Option Nat} (hc : w.cell? p = some x) (h3 : w.grownBy w6 row) (hr : row ≠ some p.block) : w6.cell? p = some x :=
 (World.cell?_of_block (h3.block p.block (World.block_lt_of_cell? w _ hc) (fun e => hr e.symm))).trans hc
theorem cell_far {w : World} {p q : Addr} {x y : Value} (hc : w.cell? p = some x) (hq : p.block ≠ q.block) : (w.setCell q y).cell? p = some x := (World.cell?_of_block (Below.heap_setCell _ q _ _ hq)).trans hc
theorem blk_far {w : World} {b : Nat} {t : TypeId} {vs : Array Value} {p : Addr} {x : Value} (h : Blk w b t vs) (hp : b ≠ p.block) : Blk (w.setCell p x) b t vs := (Below.heap_setCell _ p _ _ hp).trans h
theorem blk_not {w : World} {B n k b : Nat} {E t : TypeId} {v : Value} {vs : Array Value} {xs : List Value} (h : Blk w b t vs) (h' : w.ownsRow B E k v n xs) (hE : E ≠ t) : v.ownBlock ≠ some b := by
 rcases h'.2 with ⟨rfl, _⟩ | ⟨g, cap, cur, rfl, _, hh, _⟩
 ·intro e; cases e
 ·intro e
  have e2 : g = b := by simpa [Value.ownBlock] using e
  subst e2
  have h : w.heap[g]? = some (.cells vs t (0, 0)) := h
  rw [hh] at h
  injection h with h
  injection h with _ e3 _
  exact hE e3
theorem own_form {w : World} {B n k : Nat} {E : TypeId} {v : Value} {xs : List Value} (h : w.ownsRow B E k v n xs) : ∃ A c, v = .slice A n c := by
 rcases h.2 with ⟨rfl, rfl⟩ | ⟨g, cap, cur, rfl, _⟩
 ·exact ⟨none, 0, rfl⟩
 ·exact ⟨_, cap, rfl⟩
/-! ### which functions, and data, come one behind the other -/
def nmO (os : List Oj) (i it : Nat) : ByteArray := (syAt (ojAt os i).l ((dfr (ojAt os i).l (ojAt os i).fn it).getD 0)).1
def fpos (os : List Oj) (i k : Nat) : List (Nat × Nat) := ((List.range i).flatMap fun a => (List.range (ojAt os a).fn).map fun b => (a, b)) ++ (List.range k).map fun b => (i, b)
def dpos (os : List Oj) (i k : Nat) : List (Nat × Nat) := ((List.range i).flatMap fun a => (List.range (ojAt os a).dn).map fun b => (a, b)) ++ (List.range k).map fun b => (i, b)
theorem fpos_more (os : List Oj) (i k : Nat) : fpos os i (k + 1) = fpos os i k ++ [(i, k)] := by unfold fpos; rw [List.range_succ, List.map_append, List.append_assoc]; rfl
theorem dpos_more (os : List Oj) (i k : Nat) : dpos os i (k + 1) = dpos os i k ++ [(i, k)] := by unfold dpos; rw [List.range_succ, List.map_append, List.append_assoc]; rfl
theorem fpos_next (os : List Oj) (i : Nat) : fpos os i (ojAt os i).fn = fpos os (i + 1) 0 := by unfold fpos; rw [List.range_succ, List.flatMap_append]; simp
theorem dpos_next (os : List Oj) (i : Nat) : dpos os i (ojAt os i).dn = dpos os (i + 1) 0 := by unfold dpos; rw [List.range_succ, List.flatMap_append]; simp
theorem fpos_len (os : List Oj) : ∀ i k, (fpos os i k).length = offs os 1 i + k
 | 0, k => by simp [fpos, offs]
 | i + 1, k => by
  have h := fpos_len os i (ojAt os i).fn
  have h2 : (fpos os (i + 1) k).length = (fpos os (i + 1) 0).length + k := by simp [fpos]
  rw [h2, ← fpos_next, h]; rfl
theorem dpos_len (os : List Oj) : ∀ i k, (dpos os i k).length = offs os 2 i + k
 | 0, k => by simp [dpos, offs]
 | i + 1, k => by
  have h := dpos_len os i (ojAt os i).dn
  have h2 : (dpos os (i + 1) k).length = (dpos os (i + 1) 0).length + k := by simp [dpos]
  rw [h2, ← dpos_next, h]; rfl
def rfF (os : List Oj) (sv : Nat → Nat → Nat → Int) (i k : Nat) : List Int := bV os i ((List.range (fcAt (ojAt os i).fl k).code.2.1).map fun j => sv i k j)
def rfD (os : List Oj) (dv : Nat → Nat → List Int) (i k : Nat) : List Int := bV os i (dv i k)
def tpF (g : Gf) : Nat × Nat × ByteArray × Fc × List Int := (g.file, g.item, g.nm, g.F, g.refs)
def tpD (g : Gd) : Nat × Nat × ByteArray × Dc × List Int := (g.file, g.item, g.nm, g.D, g.refs)
def FOk (os : List Oj) (sv : Nat → Nat → Nat → Int) (ps : List (Nat × Nat)) (fs : List Gf) : Prop := fs.map tpF = ps.map fun p => (p.1, p.2, nmO os p.1 p.2, fcAt (ojAt os p.1).fl p.2, rfF os sv p.1 p.2)
def DOk (os : List Oj) (dv : Nat → Nat → List Int) (ps : List (Nat × Nat)) (ds : List Gd) : Prop := ds.map tpD = ps.map fun p => (p.1, (ojAt os p.1).fn + p.2, nmO os p.1 ((ojAt os p.1).fn + p.2), dcAt (ojAt os p.1).dl p.2, rfD os dv p.1 p.2)
theorem FOk.len {os : List Oj} {sv : Nat → Nat → Nat → Int} {ps : List (Nat × Nat)} {fs : List Gf} (h : FOk os sv ps fs) : fs.length = ps.length := by have := congrArg List.length h; simpa using this
theorem DOk.len {os : List Oj} {dv : Nat → Nat → List Int} {ps : List (Nat × Nat)} {ds : List Gd} (h : DOk os dv ps ds) : ds.length = ps.length := by have := congrArg List.length h; simpa using this
theorem FOk.more {os : List Oj} {sv : Nat → Nat → Nat → Int} {i k : Nat} {fs : List Gf} (h : FOk os sv (fpos os i k) fs) (g : Gf) (hg : tpF g = (i, k, nmO os i k, fcAt (ojAt os i).fl k, rfF os sv i k)) : FOk os sv (fpos os i (k + 1)) (fs ++ [g]) := by
 unfold FOk at h ⊢; rw [fpos_more, List.map_append, List.map_append, h, List.map_singleton, hg]; rfl
theorem DOk.more {os : List Oj} {dv : Nat → Nat → List Int} {i k : Nat} {ds : List Gd} (h : DOk os dv (dpos os i k) ds) (g : Gd) (hg : tpD g = (i, (ojAt os i).fn + k, nmO os i ((ojAt os i).fn + k), dcAt (ojAt os i).dl k, rfD os dv i k)) : DOk os dv (dpos os i (k + 1)) (ds ++ [g]) := by
 unfold DOk at h ⊢; rw [dpos_more, List.map_append, List.map_append, h, List.map_singleton, hg]; rfl
def syms3 (sv : Nat → Int) (j : Nat) : List Int := (List.range j).map sv
theorem syms3_more (sv : Nat → Int) (j : Nat) : (syms3 sv (j + 1)).flatMap encI = (syms3 sv j).flatMap encI ++ [.int .i64 (sv j)] := by unfold syms3; rw [List.range_succ, List.map_append, List.flatMap_append]; rfl
structure Px (w : World) (A : Option Addr) (n c : Nat) (os : List Oj) (sv : Nat → Nat → Nat → Int) (dv : Nat → Nat → List Int) : Prop where
 mem : OjsL w A n c os
 few : n ≤ 9 ∧ ∀ i, i < n → (ojAt os i).n ≤ 60 ∧ (ojAt os i).fn ≤ 20 ∧ (ojAt os i).dn ≤ 20
 code : ∀ i, i < n → ∀ k, k < (ojAt os i).fn → (fcAt (ojAt os i).fl k).code.2.1 ≤ 4096
 words : ∀ i, i < n → ∀ k, k < (ojAt os i).dn → (dv i k).length ≤ 4096
 sym : ∀ W, Below w.heap.size w W → ∀ i, i < n → ∀ k, k < (ojAt os i).fn → ∀ j : Nat, Calls Tryz.prog 78 #[.agg (encFc (fcAt (ojAt os i).fl k)).toArray, .int .i64 (j : Int)] W fun e w' => e = .returned (.int .i64 (sv i k j)) ∧ Below W.heap.size W w'
 refs : ∀ W, Below w.heap.size w W → ∀ i, i < n → ∀ k, k < (ojAt os i).dn → Calls Tryz.prog 81 #[.agg (encDc (dcAt (ojAt os i).dl k)).toArray] W fun e w' => ∃ Ai ci, e = .returned (.slice Ai (dv i k).length ci) ∧ IL w' Ai (dv i k).length ci (dv i k) ∧ Below W.heap.size W w'
 num : ∀ W, Below w.heap.size w W → ∀ i, i < n → ∀ k, k < (ojAt os i).n → Calls Tryz.prog 42 #[.slice A n c, .int .i64 (i : Int), .int .i64 (k : Int)] W fun e w' => e = .returned (.int .i64 (numV os i k)) ∧ Below W.heap.size W w'
 has : ∀ i, i < n → ∀ it, it < (ojAt os i).fn + (ojAt os i).dn → ∃ k, dfr (ojAt os i).l (ojAt os i).fn it = some k
 svok : ∀ i, i < n → ∀ k, k < (ojAt os i).fn → ∀ j, j < (fcAt (ojAt os i).fl k).code.2.1 → sv i k j < 0 ∨ (0 ≤ sv i k j ∧ (sv i k j).toNat < (ojAt os i).n)
 dvok : ∀ i, i < n → ∀ k, k < (ojAt os i).dn → ∀ z ∈ dv i k, z < 0 ∨ (0 ≤ z ∧ z.toNat < (ojAt os i).n)
structure PgO (B : Nat) (w : World) (fs : List Gf) (ds : List Gd) (v1 v2 : Value) : Prop where
 fr : w.ownsRow B 51 13 v1 fs.length (fs.flatMap encGf)
 dr : w.ownsRow B 86 7 v2 ds.length (ds.flatMap encGd)
 fref : ∀ g ∈ fs, w.ownsRow B 3 1 (slV g.R) g.refs.length (g.refs.flatMap encI)
 dref : ∀ g ∈ ds, w.ownsRow B 3 1 (slV g.R) g.refs.length (g.refs.flatMap encI)
 apF : fs.Pairwise fun g g' => apart g.R g'.R
 apD : ds.Pairwise fun g g' => apart g.R g'.R
 apX : ∀ g ∈ fs, ∀ d ∈ ds, apart g.R d.R
theorem PgO.later {B : Nat} {w w' : World} {fs : List Gf} {ds : List Gd} {v1 v2 : Value} (h : PgO B w fs ds v1 v2) (hb : Below w.heap.size w w') : PgO B w' fs ds v1 v2 := ⟨own_on h.fr hb, own_on h.dr hb, fun g hg => own_on (h.fref g hg) hb, fun g hg => own_on (h.dref g hg) hb, h.apF, h.apD, h.apX⟩
theorem PgO.cell {B : Nat} {w : World} {fs : List Gf} {ds : List Gd} {v1 v2 : Value} (h : PgO B w fs ds v1 v2) (p : Addr) (x : Value) (hp : p.block < B) : PgO B (w.setCell p x) fs ds v1 v2 := ⟨own_cell h.fr p x hp, own_cell h.dr p x hp, fun g hg => own_cell (h.fref g hg) p x hp, fun g hg => own_cell (h.dref g hg) p x hp, h.apF, h.apD, h.apX⟩
theorem PgI.out {w0 w : World} {fs : List Gf} {ds : List Gd} {v1 v2 : Value} (h : PgI w0 w fs ds v1 v2) : PgO (w0.heap.size + 2) w fs ds v1 v2 := ⟨h.fr, h.dr, h.fref, h.dref, h.apF, h.apD, h.apX⟩
set_option maxRecDepth 100000 in
set_option maxHeartbeats 8000000 in
theorem program_any (w : World) (A : Option Addr) (n c : Nat) (os : List Oj) (sv : Nat → Nat → Nat → Int) (dv : Nat → Nat → List Int) (h : Px w A n c os sv dv) :
  Calls Tryz.prog 41 #[.slice A n c] w fun e w' => ∃ fs ds v1 v2, e = .returned (.agg #[v1, v2, .int .i64 0]) ∧ FOk os sv (fpos os n 0) fs ∧ DOk os dv (dpos os n 0) ds ∧ Below w.heap.size w w' ∧ PgO (w.heap.size + 2) w' fs ds v1 v2 := by
 obtain ⟨iF, hiF, hzF0, hzF1, hzF2⟩ := info_split infoFun
 obtain ⟨iD, hiD, hzD0, hzD1, hzD2⟩ := info_split infoDat
 obtain ⟨iN, hiN, hzN0, hzN1, hzN2⟩ := info_split infoInt
 have HP := Hd h
 have HAT := Hd (fun W (hw : Below w.heap.size w W) j (hj : j < n) => (h.mem.on hw).at_ hj)
 have hn9 := h.few.1
 have HOFF := Hd (fun s j (hj : j ≤ n) => offs_few (fun i hi => (h.few.2 i hi).2) s j hj)
 clear h
 obtain ⟨W0, hW0⟩ : ∃ W0, (w.alloc (.cells #[.slice none 0 0, .slice none 0 0, .int .i64 0] 29)).alloc (.cells #[.slice none 0 0, .slice none 0 0, .int .i64 0] 29) = W0 := ⟨_, rfl⟩
 have HI0 := Hd (show PgI w W0 [] [] (.slice none 0 0) (.slice none 0 0) from by
  subst hW0
  refine ⟨to_ (alloc_ _ _) (alloc_ _ _), (Blk.new w _ _).alloc _, ?_, World.ownsRow_nil _ _ _ _, World.ownsRow_nil _ _ _ _, fun g hg => absurd hg (by simp), fun g hg => absurd hg (by simp), List.Pairwise.nil, List.Pairwise.nil, fun g hg => absurd hg (by simp)⟩
  have := Blk.new (w.alloc (.cells #[.slice none 0 0, .slice none 0 0, .int .i64 0] 29)) 29 #[.slice none 0 0, .slice none 0 0, .int .i64 0]
  rwa [World.size_alloc] at this)
 go_enter Tryz.func41, Tryz.ntmps41
 go_wp2_with fail
 clear hW0
 go_loopw [4] (fun i9 wr => ∃ (i : Nat) (fs : List Gf) (ds : List Gd) (v1 v2 : Value), i ≤ n ∧ i9 = .int .i64 (i : Int) ∧ Hid (PgI w wr fs ds v1 v2) ∧ Hid (FOk os sv (fpos os i 0) fs) ∧ Hid (DOk os dv (dpos os i 0) ds)) (fun i9 _ => n - (intOf i9).toNat)
 case atStart => exact ⟨0, [], [], _, _, Nat.zero_le _, rfl, HI0, Hd rfl, Hd rfl⟩
 case round =>
  obtain ⟨i, fs0, ds0, v10, v20, hi, rfl, HPG0, HFS0, HDS0⟩ := hrel
  by_cases hlt : i < n
  ·have hiI : (i : Int) < (n : Int) := by omega
   have hi0 : (0 : Int) ≤ (i : Int) := by omega
   have HLT0 := Hd hlt
   obtain ⟨ae, rfl, hz0, a0, a1, a2⟩ := HAT.out wr HPG0.out.low i hlt
   have HHAS := Hd (HP.out.has i hlt)
   have HOJ := Hd (fun W (hw : Below w.heap.size w W) => (HP.out.mem.on hw).each i hlt)
   have HSYM := Hd (fun W hw => HP.out.sym W hw i hlt)
   have HRFS := Hd (fun W hw => HP.out.refs W hw i hlt)
   have HNUM := Hd (fun W hw => HP.out.num W hw i hlt)
   have HSV := Hd (HP.out.svok i hlt)
   have HDV := Hd (HP.out.dvok i hlt)
   have HCODE := Hd (HP.out.code i hlt)
   have HWORD := Hd (HP.out.words i hlt)
   have HFEW := Hd (HP.out.few.2 i hlt)
   have HF1 := Hd (HOFF.out 1 i (by omega))
   have HF2 := Hd (HOFF.out 2 i (by omega))
   have HNF := Hd (fpos_next os i)
   have HND := Hd (dpos_next os i)
   have HMF := Hd (fun k fs hf g hg => FOk.more (os := os) (sv := sv) (i := i) (k := k) (fs := fs) hf g hg)
   have HMD := Hd (fun k ds hf g hg => DOk.more (os := os) (dv := dv) (i := i) (k := k) (ds := ds) hf g hg)
   have HNMS := Hd (fun W (hw : Below w.heap.size w W) it (hit : it < (ojAt os i).fn + (ojAt os i).dn) => show Calls Tryz.prog 79 #[ojV (ojAt os i), .int .i64 (it : Int)] W fun e w' => e = .returned (.string (nmO os i it)) ∧ Below W.heap.size W w' from by
    obtain ⟨k, hk⟩ := HHAS.out it hit
    have h9 := name_any W (ojAt os i) ((HP.out.mem.on hw).each i hlt) (by have := HFEW.out; omega) it hit k hk
    unfold nmO
    rw [hk]; exact h9)
   obtain ⟨O9, hO9⟩ : ∃ o, ojAt os i = o := ⟨_, rfl⟩
   have HO9 := Hd hO9
   rw [hO9] at a0 a1 a2 HOJ HSYM HRFS HNUM HSV HDV HCODE HWORD HFEW HNF HND HNMS
   clear hO9 hlt
   obtain ⟨oA, on, oc, ol, fA, fn, fc, fl, dA, dn, dc, dl⟩ := O9
   dsimp only at a0 a1 a2 HSYM HRFS HNUM HSV HDV HCODE HWORD HFEW HNF HND HNMS
   unfold ojV at HNMS
   dsimp only at HNMS
   obtain ⟨wz, hwz⟩ : ∃ wz, wz = wr := ⟨_, rfl⟩
   subst hwz
   obtain ⟨O, hO⟩ : ∃ O : Nat, wz.heap.size = O := ⟨_, rfl⟩
   have HPG1 := Hd (HPG0.out.later (alloc_ wz (.cells #[.slice oA on oc, .slice fA fn fc, .slice dA dn dc] 71)))
   have HOB1 := Hd (show Blk (wz.alloc (.cells #[.slice oA on oc, .slice fA fn fc, .slice dA dn dc] 71)) O 71 #[.slice oA on oc, .slice fA fn fc, .slice dA dn dc] from by rw [← hO]; exact Blk.new _ _ _)
   have HOD := Hd (show O ≠ w.heap.size + 1 from by have := HPG0.out.box.lt; omega)
   have HHO := Hd hO
   clear hO
   go_wp2_with fail
   obtain ⟨wy, hwy⟩ : ∃ wy, wz.alloc (.cells #[.slice oA on oc, .slice fA fn fc, .slice dA dn dc] 71) = wy := ⟨_, rfl⟩
   rw [hwy] at HPG1 HOB1
   rw [hwy, HHO.out]
   clear hwy a0 a1 a2 hz0
   go_loopw [6] (fun i9 wr => ∃ (k : Nat) (fs : List Gf) (v1 : Value), k ≤ fn ∧ i9 = .int .i64 (k : Int) ∧ Hid (PgI w wr fs ds0 v1 v20) ∧ Hid (Blk wr O 71 #[.slice oA on oc, .slice fA fn fc, .slice dA dn dc]) ∧ Hid (FOk os sv (fpos os i k) fs)) (fun i9 _ => fn - (intOf i9).toNat)
   case atStart => exact ⟨0, fs0, v10, Nat.zero_le _, rfl, HPG1, HOB1, HFS0⟩
   case round =>
    obtain ⟨k, fs, v1, hk, rfl, HPG, HOB, HFS⟩ := hrel
    have o0 : wr.cell? ⟨O, 0, none⟩ = some (.slice oA on oc) := HOB.out.cell 0
    have o1 : wr.cell? ⟨O, 1, none⟩ = some (.slice fA fn fc) := HOB.out.cell 1
    have o2 : wr.cell? ⟨O, 2, none⟩ = some (.slice dA dn dc) := HOB.out.cell 2
    by_cases hlt : k < fn
    ·have hkI : (k : Int) < (fn : Int) := by omega
     have hk0 : (0 : Int) ≤ (k : Int) := by omega
     have HLT := Hd hlt
     have hcn := HCODE.out k hlt
     have HLN := Hd (show fs.length ≤ 1000 from by rw [HFS.out.len, fpos_len]; have := HF1.out; have := HFEW.out; omega)
     have HFO := Hd (HMF.out k fs HFS.out)
     unfold rfF at HFO
     rw [HO9.out] at HFO
     dsimp only at HFO
     have HNM := Hd (fun W (hw : Below w.heap.size w W) => HNMS.out W hw k (by omega))
     have HBD := Hd (fun W (hw : Below w.heap.size w W) Ai ci (hz : IL W Ai _ ci (syms3 (sv i k) (fcAt fl k).code.2.1)) => bound_any W (some ae) Ai n c (fcAt fl k).code.2.1 ci os i (syms3 (sv i k) (fcAt fl k).code.2.1) hz (by omega) (fun z hz => by
      obtain ⟨j, hj, rfl⟩ := List.mem_map.1 hz
      rw [HO9.out]
      exact HSV.out k hlt j (List.mem_range.1 hj)) (fun W' hW' q hq => HNUM.out W' (to_ hw hW') q (by rw [HO9.out] at hq; exact hq)))
     have HSY := Hd (fun W (hw : Below w.heap.size w W) => HSYM.out W hw k hlt)
     have HFC := Hd (fun W (hw : Below w.heap.size w W) => fc_at (HOJ.out W hw).fs hlt)
     dsimp only at HFC
     obtain ⟨nm, hnm⟩ : ∃ x, nmO os i k = x := ⟨_, rfl⟩
     rw [hnm] at HNM HFO
     obtain ⟨⟨cl, ⟨kA, kn, kc⟩, pd, no, fr, tt, ⟨lA, ln, lc⟩, ⟨cA, cn, cc⟩, ⟨rA, rn, rc⟩⟩, hfc⟩ : ∃ x, fcAt fl k = x := ⟨_, rfl⟩
     rw [hfc] at HFO HBD HSY HFC hcn
     unfold encFc at HSY
     unfold slV at HSY HFC
     dsimp only at HFO HBD HSY HFC hcn
     obtain ⟨ad, rfl, had, f0, f1, f2, f3, f4, f5, f6, f7, f8⟩ := HFC.out wr HPG.out.low
     obtain ⟨ad2, e2, had2, -⟩ := HFC.out w (Below.refl _ _)
     obtain rfl := Option.some.inj e2
     have HAD := Hd had2
     have HADR := Hd had
     obtain ⟨sq, hsq⟩ : ∃ x, sv i k = x := ⟨_, rfl⟩
     rw [hsq] at HFO HBD HSY
     have HZL := Hd (show (syms3 sq cn).length = cn from by simp [syms3])
     obtain ⟨zr', hzr⟩ : ∃ x, bV os i (syms3 sq cn) = x := ⟨_, rfl⟩
     have HZR := Hd (show zr'.length = cn from by rw [← hzr]; simp [bV, syms3])
     rw [show bV os i (List.map (fun j => sq j) (List.range cn)) = zr' from hzr] at HFO
     have HBD := Hd (fun W hw Ai ci hz => (HBD.out W hw Ai ci hz).mono fun e w' hh => by
      obtain ⟨v, e1, e2, e3⟩ := hh
      rw [hzr] at e2
      exact (⟨v, e1, e2, e3⟩ : ∃ v, e = .returned v ∧ w'.ownsRow W.heap.size 3 1 v cn (zr'.flatMap encI) ∧ Below W.heap.size W w'))
     clear hnm hfc hsq hzr e2 had had2 hlt
     go_wp2_with fail
     obtain ⟨wk, hwk⟩ : ∃ wk, wk = wr := ⟨_, rfl⟩
     subst hwk
     clear o0 o1 o2 f0 f1 f2 f3 f4 f5 f6 f7 f8
     go_loopw [7, 8] (fun v9 i9 wr => ∃ j : Nat, j ≤ cn ∧ i9 = .int .i64 (j : Int) ∧ Hid (wr.ownsRow wk.heap.size 3 1 v9 j ((syms3 sq j).flatMap encI)) ∧ Hid (Below wk.heap.size wk wr)) (fun _ i9 _ => cn - (intOf i9).toNat)
     case atStart => exact ⟨0, Nat.zero_le _, rfl, Hd (World.ownsRow_nil _ _ _ _), Hd (Below.refl _ _)⟩
     case round =>
      obtain ⟨j, hj, rfl, HOW, HBE⟩ := hrel
      have HPGJ := Hd (HPG.out.later HBE.out)
      have HOBJ := Hd (HOB.out.below HBE.out HOB.out.lt)
      have o0 : wr.cell? ⟨O, 0, none⟩ = some (.slice oA on oc) := HOBJ.out.cell 0
      have o1 : wr.cell? ⟨O, 1, none⟩ = some (.slice (some ad) fn fc) := HOBJ.out.cell 1
      have o2 : wr.cell? ⟨O, 2, none⟩ = some (.slice dA dn dc) := HOBJ.out.cell 2
      obtain ⟨ad2, e2, had2, f0, f1, f2, f3, f4, f5, f6, f7, f8⟩ := HFC.out wr HPGJ.out.low
      obtain rfl := Option.some.inj e2
      clear e2 had2
      by_cases hjl : j < cn
      ·have hjI : (j : Int) < (cn : Int) := by omega
       have hj0 : (0 : Int) ≤ (j : Int) := by omega
       have HS3 := Hd (syms3_more sq j)
       obtain ⟨z, hz⟩ : ∃ z, sq j = z := ⟨_, rfl⟩
       have HC := Hd (fun W hw => HSY.out W hw j)
       rw [hz] at HS3 HC
       clear hz
       go_wp2_with (go_at_call 78; refine (HC.out _ HPGJ.out.low).mono ?_; rintro e w3 ⟨rfl, b3⟩; have HB3 := Hd b3; clear b3; go_wp2_with (at_builtin; go_loud (refine wpList_append_own _ rfl _ _ 44 rfl wk.heap.size 3 iN (.int .i64 0) 1 8 Tryz.underlying44 hiN hzN0 hzN1 hzN2 rfl (by decide) _ _ _ rfl (own_keep1 HOW.out fun gg _ hgl _ => (to_ HB3.out (alloc_ _ _)).block gg hgl) ⟨w3.heap.size, 0, none⟩ 1 1 [.int .i64 z] rfl rfl (one_new w3 _ 3) (by simp [Value.oneCell']) (by unfold maxLen; omega) (by omega) (by have := HBE.out.size; have := HB3.out.size; simp; omega) ?_; intro v' w' h2 h3 _; have H2 := Hd h2; have H3 := Hd h3; clear h2 h3)))
       go_roundw
       case rel => exact ⟨j + 1, by omega, by go_num, Hd (by rw [HS3.out]; exact H2.out), Hd (((to_ HBE.out (to_ HB3.out (alloc_ _ _)))).grown H3.out (to_ HBE.out (to_ HB3.out (alloc_ _ _))).size fun r e => (HOW.out.lt r e).1)⟩
       case measure => simp [intOf]; omega
      ·obtain rfl : cn = j := by omega
       obtain ⟨sA, sc, rfl, hil⟩ := wd_own encI_len HZL.out HOW.out
       go_wp2_with fail
       have HW := Hd (show Below w.heap.size w wr.drew from HPGJ.out.low.drew)
       have HPG := Hd (show PgI w wr.drew fs ds0 v1 v20 from HPGJ.out.later (Below.refl _ _).drew)
       have HOB := Hd (show Blk wr.drew O 71 #[.slice oA on oc, .slice (some ad) fn fc, .slice dA dn dc] from HOBJ.out)
       have HIL := Hd (show IL wr.drew sA cn sc (syms3 sq cn) from IL.on hil (Below.refl _ _).drew)
       have d0 : wr.cell? ⟨w.heap.size + 1, 0, none⟩ = some v1 := HPGJ.out.box.cell 0
       have hi9 := HLT0.out
       have hk9 := HLT.out
       have hfn9 : fn ≤ 20 := HFEW.out.2.1
       clear hil
       refine wp_region_noPanic ?_
       refine wp_region_held_drew (S := fun W => W.cell? ⟨O, 0, none⟩ = some (.slice oA on oc) ∧ W.cell? ⟨O, 1, none⟩ = some (.slice (some ad) fn fc) ∧ W.cell? ⟨O, 2, none⟩ = some (.slice dA dn dc) ∧ W.cell? (ad.add (k * 9)) = some (.int .i64 cl) ∧ W.cell? ⟨(ad.add (k * 9)).block, (ad.add (k * 9)).off + 1, none⟩ = some (.slice kA kn kc) ∧ W.cell? ⟨(ad.add (k * 9)).block, (ad.add (k * 9)).off + 2, none⟩ = some (.int .i64 pd) ∧ W.cell? ⟨(ad.add (k * 9)).block, (ad.add (k * 9)).off + 3, none⟩ = some (.bool no) ∧ W.cell? ⟨(ad.add (k * 9)).block, (ad.add (k * 9)).off + 4, none⟩ = some (.int .i64 fr) ∧ W.cell? ⟨(ad.add (k * 9)).block, (ad.add (k * 9)).off + 5, none⟩ = some (.int .i64 tt) ∧ W.cell? ⟨(ad.add (k * 9)).block, (ad.add (k * 9)).off + 6, none⟩ = some (.slice lA ln lc) ∧ W.cell? ⟨(ad.add (k * 9)).block, (ad.add (k * 9)).off + 7, none⟩ = some (.slice cA cn cc) ∧ W.cell? ⟨(ad.add (k * 9)).block, (ad.add (k * 9)).off + 8, none⟩ = some (.slice rA rn rc)) (by kernel_rfl) (⟨o0, o1, o2, f0, f1, f2, f3, f4, f5, f6, f7, f8⟩) (fun hHeld => ?_)
       refine tk8Z 0 2 3 4 5 7 8 9 hHeld ?_
       refine tk5Z 10 11 12 13 14 hHeld ?_
       refine wpAnyH_ready (rs := [1, 6]) (by kernel_rfl) (by simp) ?_
       refine AllReadyH.cons rfl (fun K hK => ?_) (AllReadyH.cons rfl (fun K hK => ?_) AllReadyH.nil)
       focus
        go_simp
        refine hK.out _ _ (hHeld) ?_
        clear hK K hHeld
        intro hHeld
        try simp only [Act.put, nmZ]
        refine rd1Z 6 (fun K hK => ?_)
        go_simp
        refine (HNM.out _ HW.out).mono ?_
        rintro e w3 ⟨rfl, b3⟩
        have HBS := Hd b3
        have d0 : w3.cell? ⟨w.heap.size + 1, 0, none⟩ = some v1 := cell_on (W := wr.drew) d0 b3
        have HW := Hd (to_ HW.out b3)
        have HPG := Hd (HPG.out.later b3)
        have HOB := Hd (HOB.out.below b3 HOB.out.lt)
        have HIL := Hd (IL.on HIL.out b3)
        clear b3
        try go_wp2_with fail
        refine hK.out _ _ (⟨cell_on hHeld.1 HBS.out, cell_on hHeld.2.1 HBS.out, cell_on hHeld.2.2.1 HBS.out, cell_on hHeld.2.2.2.1 HBS.out, cell_on hHeld.2.2.2.2.1 HBS.out, cell_on hHeld.2.2.2.2.2.1 HBS.out, cell_on hHeld.2.2.2.2.2.2.1 HBS.out, cell_on hHeld.2.2.2.2.2.2.2.1 HBS.out, cell_on hHeld.2.2.2.2.2.2.2.2.1 HBS.out, cell_on hHeld.2.2.2.2.2.2.2.2.2.1 HBS.out, cell_on hHeld.2.2.2.2.2.2.2.2.2.2.1 HBS.out, cell_on hHeld.2.2.2.2.2.2.2.2.2.2.2 HBS.out⟩) ?_
        clear hK K hHeld
        intro hHeld
        try simp only [Act.put, nmZ]
        refine rd1Z 15 (fun K hK => ?_)
        go_simp
        refine (HBD.out _ HW.out _ _ HIL.out).mono ?_
        rintro e w5 ⟨vr, rfl, hro, b5⟩
        obtain ⟨qA, qc, rfl⟩ := own_form hro
        have HBS := Hd b5
        have d0 : w5.cell? ⟨w.heap.size + 1, 0, none⟩ = some v1 := cell_on d0 b5
        have HRO := Hd (show w5.ownsRow (w.heap.size + 2) 3 1 (.slice qA cn qc) zr'.length (zr'.flatMap encI) from by rw [HZR.out]; exact own_lower hro HPG.out.box.lt)
        have HFZ := Hd (PgI.fresh HPG.out (R := (qA, cn, qc)) hro)
        have HW := Hd (to_ HW.out b5)
        have HPG := Hd (HPG.out.later b5)
        have HOB := Hd (HOB.out.below b5 HOB.out.lt)
        have hz5 := HPG.out.box.lt
        clear b5 hro
        try go_wp2_with fail
        refine hK.out _ _ (⟨cell_on hHeld.1 HBS.out, cell_on hHeld.2.1 HBS.out, cell_on hHeld.2.2.1 HBS.out, cell_on hHeld.2.2.2.1 HBS.out, cell_on hHeld.2.2.2.2.1 HBS.out, cell_on hHeld.2.2.2.2.2.1 HBS.out, cell_on hHeld.2.2.2.2.2.2.1 HBS.out, cell_on hHeld.2.2.2.2.2.2.2.1 HBS.out, cell_on hHeld.2.2.2.2.2.2.2.2.1 HBS.out, cell_on hHeld.2.2.2.2.2.2.2.2.2.1 HBS.out, cell_on hHeld.2.2.2.2.2.2.2.2.2.2.1 HBS.out, cell_on hHeld.2.2.2.2.2.2.2.2.2.2.2 HBS.out⟩) ?_
        clear hK K hHeld
        intro hHeld
        try simp only [Act.put, nmZ]
        refine tk1Z 16 hHeld ?_
        refine rd1Z 17 (fun K hK => ?_)
        go_simp
        have HBS := Hd (alloc_ w5 (.cells #[.int .i64 (i : Int), .int .i64 (k : Int), .string nm, .int .i64 cl, .slice kA kn kc, .int .i64 pd, .bool no, .int .i64 fr, .int .i64 tt, .slice lA ln lc, .slice cA cn cc, .slice rA rn rc, .slice qA cn qc] 51))
        refine hK.out _ _ (⟨cell_on hHeld.1 HBS.out, cell_on hHeld.2.1 HBS.out, cell_on hHeld.2.2.1 HBS.out, cell_on hHeld.2.2.2.1 HBS.out, cell_on hHeld.2.2.2.2.1 HBS.out, cell_on hHeld.2.2.2.2.2.1 HBS.out, cell_on hHeld.2.2.2.2.2.2.1 HBS.out, cell_on hHeld.2.2.2.2.2.2.2.1 HBS.out, cell_on hHeld.2.2.2.2.2.2.2.2.1 HBS.out, cell_on hHeld.2.2.2.2.2.2.2.2.2.1 HBS.out, cell_on hHeld.2.2.2.2.2.2.2.2.2.2.1 HBS.out, cell_on hHeld.2.2.2.2.2.2.2.2.2.2.2 HBS.out⟩) ?_
       rotate_left
       focus
        go_simp
        refine (HNM.out _ HW.out).mono ?_
        rintro e w3 ⟨rfl, b3⟩
        have HBS := Hd b3
        have d0 : w3.cell? ⟨w.heap.size + 1, 0, none⟩ = some v1 := cell_on (W := wr.drew) d0 b3
        have HW := Hd (to_ HW.out b3)
        have HPG := Hd (HPG.out.later b3)
        have HOB := Hd (HOB.out.below b3 HOB.out.lt)
        have HIL := Hd (IL.on HIL.out b3)
        clear b3
        try go_wp2_with fail
        refine hK.out _ _ (⟨cell_on hHeld.1 HBS.out, cell_on hHeld.2.1 HBS.out, cell_on hHeld.2.2.1 HBS.out, cell_on hHeld.2.2.2.1 HBS.out, cell_on hHeld.2.2.2.2.1 HBS.out, cell_on hHeld.2.2.2.2.2.1 HBS.out, cell_on hHeld.2.2.2.2.2.2.1 HBS.out, cell_on hHeld.2.2.2.2.2.2.2.1 HBS.out, cell_on hHeld.2.2.2.2.2.2.2.2.1 HBS.out, cell_on hHeld.2.2.2.2.2.2.2.2.2.1 HBS.out, cell_on hHeld.2.2.2.2.2.2.2.2.2.2.1 HBS.out, cell_on hHeld.2.2.2.2.2.2.2.2.2.2.2 HBS.out⟩) ?_
        clear hK K hHeld
        intro hHeld
        try simp only [Act.put, nmZ]
        refine wpAnyH_ready (rs := [1, 15]) (by kernel_rfl) (by simp) ?_
        refine AllReadyH.cons rfl (fun K hK => ?_) (AllReadyH.cons rfl (fun K hK => ?_) AllReadyH.nil)
        focus
         go_simp
         refine hK.out _ _ (hHeld) ?_
         clear hK K hHeld
         intro hHeld
         try simp only [Act.put, nmZ]
         refine rd1Z 15 (fun K hK => ?_)
         go_simp
         refine (HBD.out _ HW.out _ _ HIL.out).mono ?_
         rintro e w5 ⟨vr, rfl, hro, b5⟩
         obtain ⟨qA, qc, rfl⟩ := own_form hro
         have HBS := Hd b5
         have d0 : w5.cell? ⟨w.heap.size + 1, 0, none⟩ = some v1 := cell_on d0 b5
         have HRO := Hd (show w5.ownsRow (w.heap.size + 2) 3 1 (.slice qA cn qc) zr'.length (zr'.flatMap encI) from by rw [HZR.out]; exact own_lower hro HPG.out.box.lt)
         have HFZ := Hd (PgI.fresh HPG.out (R := (qA, cn, qc)) hro)
         have HW := Hd (to_ HW.out b5)
         have HPG := Hd (HPG.out.later b5)
         have HOB := Hd (HOB.out.below b5 HOB.out.lt)
         have hz5 := HPG.out.box.lt
         clear b5 hro
         try go_wp2_with fail
         refine hK.out _ _ (⟨cell_on hHeld.1 HBS.out, cell_on hHeld.2.1 HBS.out, cell_on hHeld.2.2.1 HBS.out, cell_on hHeld.2.2.2.1 HBS.out, cell_on hHeld.2.2.2.2.1 HBS.out, cell_on hHeld.2.2.2.2.2.1 HBS.out, cell_on hHeld.2.2.2.2.2.2.1 HBS.out, cell_on hHeld.2.2.2.2.2.2.2.1 HBS.out, cell_on hHeld.2.2.2.2.2.2.2.2.1 HBS.out, cell_on hHeld.2.2.2.2.2.2.2.2.2.1 HBS.out, cell_on hHeld.2.2.2.2.2.2.2.2.2.2.1 HBS.out, cell_on hHeld.2.2.2.2.2.2.2.2.2.2.2 HBS.out⟩) ?_
         clear hK K hHeld
         intro hHeld
         try simp only [Act.put, nmZ]
         refine tk1Z 16 hHeld ?_
         refine rd1Z 17 (fun K hK => ?_)
         go_simp
         have HBS := Hd (alloc_ w5 (.cells #[.int .i64 (i : Int), .int .i64 (k : Int), .string nm, .int .i64 cl, .slice kA kn kc, .int .i64 pd, .bool no, .int .i64 fr, .int .i64 tt, .slice lA ln lc, .slice cA cn cc, .slice rA rn rc, .slice qA cn qc] 51))
         refine hK.out _ _ (⟨cell_on hHeld.1 HBS.out, cell_on hHeld.2.1 HBS.out, cell_on hHeld.2.2.1 HBS.out, cell_on hHeld.2.2.2.1 HBS.out, cell_on hHeld.2.2.2.2.1 HBS.out, cell_on hHeld.2.2.2.2.2.1 HBS.out, cell_on hHeld.2.2.2.2.2.2.1 HBS.out, cell_on hHeld.2.2.2.2.2.2.2.1 HBS.out, cell_on hHeld.2.2.2.2.2.2.2.2.1 HBS.out, cell_on hHeld.2.2.2.2.2.2.2.2.2.1 HBS.out, cell_on hHeld.2.2.2.2.2.2.2.2.2.2.1 HBS.out, cell_on hHeld.2.2.2.2.2.2.2.2.2.2.2 HBS.out⟩) ?_
        rotate_left
        focus
         go_simp
         refine (HBD.out _ HW.out _ _ HIL.out).mono ?_
         rintro e w5 ⟨vr, rfl, hro, b5⟩
         obtain ⟨qA, qc, rfl⟩ := own_form hro
         have HBS := Hd b5
         have d0 : w5.cell? ⟨w.heap.size + 1, 0, none⟩ = some v1 := cell_on d0 b5
         have HRO := Hd (show w5.ownsRow (w.heap.size + 2) 3 1 (.slice qA cn qc) zr'.length (zr'.flatMap encI) from by rw [HZR.out]; exact own_lower hro HPG.out.box.lt)
         have HFZ := Hd (PgI.fresh HPG.out (R := (qA, cn, qc)) hro)
         have HW := Hd (to_ HW.out b5)
         have HPG := Hd (HPG.out.later b5)
         have HOB := Hd (HOB.out.below b5 HOB.out.lt)
         have hz5 := HPG.out.box.lt
         clear b5 hro
         try go_wp2_with fail
         refine hK.out _ _ (⟨cell_on hHeld.1 HBS.out, cell_on hHeld.2.1 HBS.out, cell_on hHeld.2.2.1 HBS.out, cell_on hHeld.2.2.2.1 HBS.out, cell_on hHeld.2.2.2.2.1 HBS.out, cell_on hHeld.2.2.2.2.2.1 HBS.out, cell_on hHeld.2.2.2.2.2.2.1 HBS.out, cell_on hHeld.2.2.2.2.2.2.2.1 HBS.out, cell_on hHeld.2.2.2.2.2.2.2.2.1 HBS.out, cell_on hHeld.2.2.2.2.2.2.2.2.2.1 HBS.out, cell_on hHeld.2.2.2.2.2.2.2.2.2.2.1 HBS.out, cell_on hHeld.2.2.2.2.2.2.2.2.2.2.2 HBS.out⟩) ?_
         clear hK K hHeld
         intro hHeld
         try simp only [Act.put, nmZ]
         refine tk1Z 16 hHeld ?_
         refine wpAnyH_ready (rs := [1, 17]) (by kernel_rfl) (by simp) ?_
         refine AllReadyH.cons rfl (fun K hK => ?_) (AllReadyH.cons rfl (fun K hK => ?_) AllReadyH.nil)
         focus
          go_simp
          refine hK.out _ _ (hHeld) ?_
          clear hK K hHeld
          intro hHeld
          try simp only [Act.put, nmZ]
          refine rd1Z 17 (fun K hK => ?_)
          go_simp
          have HBS := Hd (alloc_ w5 (.cells #[.int .i64 (i : Int), .int .i64 (k : Int), .string nm, .int .i64 cl, .slice kA kn kc, .int .i64 pd, .bool no, .int .i64 fr, .int .i64 tt, .slice lA ln lc, .slice cA cn cc, .slice rA rn rc, .slice qA cn qc] 51))
          refine hK.out _ _ (⟨cell_on hHeld.1 HBS.out, cell_on hHeld.2.1 HBS.out, cell_on hHeld.2.2.1 HBS.out, cell_on hHeld.2.2.2.1 HBS.out, cell_on hHeld.2.2.2.2.1 HBS.out, cell_on hHeld.2.2.2.2.2.1 HBS.out, cell_on hHeld.2.2.2.2.2.2.1 HBS.out, cell_on hHeld.2.2.2.2.2.2.2.1 HBS.out, cell_on hHeld.2.2.2.2.2.2.2.2.1 HBS.out, cell_on hHeld.2.2.2.2.2.2.2.2.2.1 HBS.out, cell_on hHeld.2.2.2.2.2.2.2.2.2.2.1 HBS.out, cell_on hHeld.2.2.2.2.2.2.2.2.2.2.2 HBS.out⟩) ?_
         rotate_left
         focus
          go_simp
          have HBS := Hd (alloc_ w5 (.cells #[.int .i64 (i : Int), .int .i64 (k : Int), .string nm, .int .i64 cl, .slice kA kn kc, .int .i64 pd, .bool no, .int .i64 fr, .int .i64 tt, .slice lA ln lc, .slice cA cn cc, .slice rA rn rc, .slice qA cn qc] 51))
          refine hK.out _ _ (⟨cell_on hHeld.1 HBS.out, cell_on hHeld.2.1 HBS.out, cell_on hHeld.2.2.1 HBS.out, cell_on hHeld.2.2.2.1 HBS.out, cell_on hHeld.2.2.2.2.1 HBS.out, cell_on hHeld.2.2.2.2.2.1 HBS.out, cell_on hHeld.2.2.2.2.2.2.1 HBS.out, cell_on hHeld.2.2.2.2.2.2.2.1 HBS.out, cell_on hHeld.2.2.2.2.2.2.2.2.1 HBS.out, cell_on hHeld.2.2.2.2.2.2.2.2.2.1 HBS.out, cell_on hHeld.2.2.2.2.2.2.2.2.2.2.1 HBS.out, cell_on hHeld.2.2.2.2.2.2.2.2.2.2.2 HBS.out⟩) ?_
          clear hK K hHeld
          intro hHeld
          try simp only [Act.put, nmZ]
          refine rd1Z 1 (fun K hK => ?_)
          go_simp
          refine hK.out _ _ (hHeld) ?_
         rotate_left
        rotate_left 2
       rotate_left 3
       all_goals
        clear hK K hHeld
        intro hHeld
        try simp only [Act.put, nmZ]
        refine rd1Z 18 (fun K hK => ?_)
        have HNO := Hd (show v1.ownBlock ≠ some O from blk_not HOB.out HPG.out.fr (by decide))
        have KH := hHeld
        refine step_append_own rfl _ _ 26 rfl (w.heap.size + 2) 51 iF (.agg #[.int .i64 0, .int .i64 0, .string ⟨#[]⟩, .int .i64 0, .slice none 0 0, .int .i64 0, .bool false, .int .i64 0, .int .i64 0, .slice none 0 0, .slice none 0 0, .slice none 0 0, .slice none 0 0]) 13 192 Tryz.underlying26 hiF hzF0 hzF1 hzF2 rfl (by decide) _ fs.length (fs.flatMap encGf) rfl (own_on HPG.out.fr (alloc_ _ _)) ⟨w5.heap.size, 0, none⟩ 1 [.int .i64 (i : Int), .int .i64 (k : Int), .string nm, .int .i64 cl, .slice kA kn kc, .int .i64 pd, .bool no, .int .i64 fr, .int .i64 tt, .slice lA ln lc, .slice cA cn cc, .slice rA rn rc, .slice qA cn qc] rfl rfl (fun j u hu => by rw [add_plain, Nat.zero_add]; exact ((Blk.new w5 51 #[.int .i64 (i : Int), .int .i64 (k : Int), .string nm, .int .i64 cl, .slice kA kn kc, .int .i64 pd, .bool no, .int .i64 fr, .int .i64 tt, .slice lA ln lc, .slice cA cn cc, .slice rA rn rc, .slice qA cn qc]).cell j).trans (by simpa using hu)) (by simp [Value.oneCell']) (by unfold maxLen; have := HLN.out; omega) (by have := HLN.out; omega) (by simp; omega) ?_
        intro v' w6 h2 h3
        obtain ⟨xA, xc, rfl⟩ := own_form h2
        have HFIN := Hd (PgI.addF HPG.out (⟨i, k, nm, ⟨cl, (kA, kn, kc), pd, no, fr, tt, (lA, ln, lc), (cA, cn, cc), (rA, rn, rc)⟩, (qA, cn, qc), zr'⟩) HRO.out HFZ.out _ h2 h3)
        have e0 : w6.cell? ⟨w.heap.size + 1, 0, none⟩ = some (v1) := (blk_grown (HPG.out.later (alloc_ _ _)).box h3 (own_ne HPG.out.fr (by omega))).cell 0
        have g0 : w6.frozen? ⟨w.heap.size + 1, 0, none⟩ = false := (blk_grown (HPG.out.later (alloc_ _ _)).box h3 (own_ne HPG.out.fr (by omega))).frozen 0
        have HOB2 := Hd (blk_far (blk_grown (HOB.out.alloc _) h3 HNO.out) (p := ⟨w.heap.size + 1, 0, none⟩) (x := .slice xA (fs.length + 1) xc) HOD.out)
        have HK6 := Hd (show (fun W => W.cell? ⟨O, 0, none⟩ = some (.slice oA on oc) ∧ W.cell? ⟨O, 1, none⟩ = some (.slice (some ad) fn fc) ∧ W.cell? ⟨O, 2, none⟩ = some (.slice dA dn dc) ∧ W.cell? (ad.add (k * 9)) = some (.int .i64 cl) ∧ W.cell? ⟨(ad.add (k * 9)).block, (ad.add (k * 9)).off + 1, none⟩ = some (.slice kA kn kc) ∧ W.cell? ⟨(ad.add (k * 9)).block, (ad.add (k * 9)).off + 2, none⟩ = some (.int .i64 pd) ∧ W.cell? ⟨(ad.add (k * 9)).block, (ad.add (k * 9)).off + 3, none⟩ = some (.bool no) ∧ W.cell? ⟨(ad.add (k * 9)).block, (ad.add (k * 9)).off + 4, none⟩ = some (.int .i64 fr) ∧ W.cell? ⟨(ad.add (k * 9)).block, (ad.add (k * 9)).off + 5, none⟩ = some (.int .i64 tt) ∧ W.cell? ⟨(ad.add (k * 9)).block, (ad.add (k * 9)).off + 6, none⟩ = some (.slice lA ln lc) ∧ W.cell? ⟨(ad.add (k * 9)).block, (ad.add (k * 9)).off + 7, none⟩ = some (.slice cA cn cc) ∧ W.cell? ⟨(ad.add (k * 9)).block, (ad.add (k * 9)).off + 8, none⟩ = some (.slice rA rn rc)) w6 from ⟨cell_step KH.1 h3 HNO.out, cell_step KH.2.1 h3 HNO.out, cell_step KH.2.2.1 h3 HNO.out, cell_step KH.2.2.2.1 h3 (own_ne HPG.out.fr (by rw [add_block]; have := HAD.out; omega)), cell_step KH.2.2.2.2.1 h3 (own_ne HPG.out.fr (by show (ad.add (k * 9)).block < _; rw [add_block]; have := HAD.out; omega)), cell_step KH.2.2.2.2.2.1 h3 (own_ne HPG.out.fr (by show (ad.add (k * 9)).block < _; rw [add_block]; have := HAD.out; omega)), cell_step KH.2.2.2.2.2.2.1 h3 (own_ne HPG.out.fr (by show (ad.add (k * 9)).block < _; rw [add_block]; have := HAD.out; omega)), cell_step KH.2.2.2.2.2.2.2.1 h3 (own_ne HPG.out.fr (by show (ad.add (k * 9)).block < _; rw [add_block]; have := HAD.out; omega)), cell_step KH.2.2.2.2.2.2.2.2.1 h3 (own_ne HPG.out.fr (by show (ad.add (k * 9)).block < _; rw [add_block]; have := HAD.out; omega)), cell_step KH.2.2.2.2.2.2.2.2.2.1 h3 (own_ne HPG.out.fr (by show (ad.add (k * 9)).block < _; rw [add_block]; have := HAD.out; omega)), cell_step KH.2.2.2.2.2.2.2.2.2.2.1 h3 (own_ne HPG.out.fr (by show (ad.add (k * 9)).block < _; rw [add_block]; have := HAD.out; omega)), cell_step KH.2.2.2.2.2.2.2.2.2.2.2 h3 (own_ne HPG.out.fr (by show (ad.add (k * 9)).block < _; rw [add_block]; have := HAD.out; omega))⟩)
        have h6 := HK6.out
        clear h2 h3 KH
        refine hK.out _ _ (h6) ?_
        clear hK K hHeld
        intro hHeld
        try simp only [Act.put, nmZ]
        clear h6
        refine tk1Z 19 hHeld ?_
        refine rd1Z 20 (fun K hK => ?_)
        go_simp
        refine hK.out _ _ (⟨cell_far HK6.out.1 HOD.out, cell_far HK6.out.2.1 HOD.out, cell_far HK6.out.2.2.1 HOD.out, cell_far HK6.out.2.2.2.1 (by rw [add_block]; show ad.block ≠ w.heap.size + 1; have := HAD.out; omega), cell_far HK6.out.2.2.2.2.1 (by show (ad.add (k * 9)).block ≠ w.heap.size + 1; rw [add_block]; have := HAD.out; omega), cell_far HK6.out.2.2.2.2.2.1 (by show (ad.add (k * 9)).block ≠ w.heap.size + 1; rw [add_block]; have := HAD.out; omega), cell_far HK6.out.2.2.2.2.2.2.1 (by show (ad.add (k * 9)).block ≠ w.heap.size + 1; rw [add_block]; have := HAD.out; omega), cell_far HK6.out.2.2.2.2.2.2.2.1 (by show (ad.add (k * 9)).block ≠ w.heap.size + 1; rw [add_block]; have := HAD.out; omega), cell_far HK6.out.2.2.2.2.2.2.2.2.1 (by show (ad.add (k * 9)).block ≠ w.heap.size + 1; rw [add_block]; have := HAD.out; omega), cell_far HK6.out.2.2.2.2.2.2.2.2.2.1 (by show (ad.add (k * 9)).block ≠ w.heap.size + 1; rw [add_block]; have := HAD.out; omega), cell_far HK6.out.2.2.2.2.2.2.2.2.2.2.1 (by show (ad.add (k * 9)).block ≠ w.heap.size + 1; rw [add_block]; have := HAD.out; omega), cell_far HK6.out.2.2.2.2.2.2.2.2.2.2.2 (by show (ad.add (k * 9)).block ≠ w.heap.size + 1; rw [add_block]; have := HAD.out; omega)⟩) ?_
        clear hK K hHeld
        intro hHeld
        try simp only [Act.put, nmZ]
        refine wpAnyH_done (by kernel_rfl) ?_ _
        refine NoPanic.normal ?_
        clear d0 e0 g0
        go_wp2_with fail
        go_roundw
        case rel => exact ⟨k + 1, _, _, by have := HLT.out; omega, by go_num, HFIN, HOB2, Hd (HFO.out _ rfl)⟩
        case measure => have := HLT.out; simp [intOf]; omega
    ·obtain rfl : fn = k := by omega
     have HFS1 := Hd (show FOk os sv (fpos os (i + 1) 0) fs from by have := HFS.out; rw [HNF.out] at this; exact this)
     go_wp2_with fail
     clear o0 o1 o2
     go_loopw [9] (fun i9 wr => ∃ (q : Nat) (ds : List Gd) (v2 : Value), q ≤ dn ∧ i9 = .int .i64 (q : Int) ∧ Hid (PgI w wr fs ds v1 v2) ∧ Hid (Blk wr O 71 #[.slice oA on oc, .slice fA fn fc, .slice dA dn dc]) ∧ Hid (DOk os dv (dpos os i q) ds)) (fun i9 _ => dn - (intOf i9).toNat)
     case atStart => exact ⟨0, ds0, v20, Nat.zero_le _, rfl, HPG, HOB, HDS0⟩
     case round =>
      obtain ⟨k, ds, v2, hk, rfl, HPG, HOB, HDS⟩ := hrel
      have o0 : wr.cell? ⟨O, 0, none⟩ = some (.slice oA on oc) := HOB.out.cell 0
      have o1 : wr.cell? ⟨O, 1, none⟩ = some (.slice fA fn fc) := HOB.out.cell 1
      have o2 : wr.cell? ⟨O, 2, none⟩ = some (.slice dA dn dc) := HOB.out.cell 2
      by_cases hlt : k < dn
      ·have hkI : (k : Int) < (dn : Int) := by omega
       have hk0 : (0 : Int) ≤ (k : Int) := by omega
       have HLT := Hd hlt
       have hcn := HWORD.out k hlt
       have HLN := Hd (show ds.length ≤ 1000 from by rw [HDS.out.len, dpos_len]; have := HF2.out; have := HFEW.out; omega)
       have HFO := Hd (HMD.out k ds HDS.out)
       unfold rfD at HFO
       rw [HO9.out] at HFO
       dsimp only at HFO
       have HNM := Hd (fun W (hw : Below w.heap.size w W) => HNMS.out W hw (fn + k) (by omega))
       have HRF := Hd (fun W (hw : Below w.heap.size w W) => HRFS.out W hw k hlt)
       have HBD := Hd (fun W (hw : Below w.heap.size w W) Ai ci (hz : IL W Ai (dv i k).length ci (dv i k)) => bound_any W (some ae) Ai n c (dv i k).length ci os i (dv i k) hz (by omega) (fun z hz => by
        rw [HO9.out]
        exact HDV.out k hlt z hz) (fun W' hW' q hq => HNUM.out W' (to_ hw hW') q (by rw [HO9.out] at hq; exact hq)))
       have HFC := Hd (fun W (hw : Below w.heap.size w W) => dc_at (HOJ.out W hw).ds hlt)
       dsimp only at HFC
       obtain ⟨nm, hnm⟩ : ∃ x, nmO os i (fn + k) = x := ⟨_, rfl⟩
       rw [hnm] at HNM HFO
       obtain ⟨⟨kd, ⟨kA, kn, kc⟩, ⟨rA, rn, rc⟩⟩, hfc⟩ : ∃ x, dcAt dl k = x := ⟨_, rfl⟩
       rw [hfc] at HFO HRF HFC
       unfold encDc at HRF
       unfold slV at HRF HFC
       dsimp only at HFO HRF HFC
       obtain ⟨ad, rfl, had, f0, f1, f2⟩ := HFC.out wr HPG.out.low
       obtain ⟨ad2, e2, had2, -⟩ := HFC.out w (Below.refl _ _)
       obtain rfl := Option.some.inj e2
       have HAD := Hd had2
       obtain ⟨zs, hzs⟩ : ∃ x, dv i k = x := ⟨_, rfl⟩
       rw [hzs] at HFO HBD HRF hcn
       obtain ⟨m9, hm9⟩ : ∃ x, zs.length = x := ⟨_, rfl⟩
       rw [hm9] at HBD HRF hcn
       have HZL := Hd hm9
       obtain ⟨zr', hzr⟩ : ∃ x, bV os i zs = x := ⟨_, rfl⟩
       have HZR := Hd (show zr'.length = m9 from by rw [← hzr, ← hm9]; simp [bV])
       rw [hzr] at HFO HBD
       have hadd : IntKind.i64.wrap ((fn : Int) + (k : Int)) = ((fn + k : Nat) : Int) := by
        have e : (fn : Int) + (k : Int) = ((fn + k : Nat) : Int) := by omega
        rw [e]; exact IntWalk.i64_in _ ⟨by omega, by have := HFEW.out; omega⟩
       have hfn9 : fn ≤ 20 := HFEW.out.2.1
       have hdn9 : dn ≤ 20 := HFEW.out.2.2
       clear hnm hfc hzs hm9 hzr e2 had had2 hlt
       go_wp2_with fail
       have HW := Hd (show Below w.heap.size w wr.drew from HPG.out.low.drew)
       have HPG := Hd (show PgI w wr.drew fs ds v1 v2 from HPG.out.later (Below.refl _ _).drew)
       have HOB := Hd (show Blk wr.drew O 71 #[.slice oA on oc, .slice fA fn fc, .slice (some ad) dn dc] from HOB.out)
       have d0 : wr.cell? ⟨w.heap.size + 1, 1, none⟩ = some v2 := HPG.out.box.cell 1
       have hi9 := HLT0.out
       have hk9 := HLT.out
       refine wp_region_noPanic ?_
       refine wp_region_held_drew (S := fun W => W.cell? ⟨O, 0, none⟩ = some (.slice oA on oc) ∧ W.cell? ⟨O, 1, none⟩ = some (.slice fA fn fc) ∧ W.cell? ⟨O, 2, none⟩ = some (.slice (some ad) dn dc) ∧ W.cell? (ad.add (k * 3)) = some (.int .i64 kd) ∧ W.cell? ⟨(ad.add (k * 3)).block, (ad.add (k * 3)).off + 1, none⟩ = some (.slice kA kn kc) ∧ W.cell? ⟨(ad.add (k * 3)).block, (ad.add (k * 3)).off + 2, none⟩ = some (.slice rA rn rc)) (by kernel_rfl) (⟨o0, o1, o2, f0, f1, f2⟩) (fun hHeld => ?_)
       refine tk8Z 0 2 3 4 5 6 7 8 hHeld ?_
       refine tk8Z 9 10 11 12 13 15 16 17 hHeld ?_
       refine tk8Z 18 19 20 21 22 23 24 25 hHeld ?_
       refine tk1Z 26 hHeld ?_
       refine wpAnyH_ready (rs := [1, 14]) (by kernel_rfl) (by simp) ?_
       refine AllReadyH.cons rfl (fun K hK => ?_) (AllReadyH.cons rfl (fun K hK => ?_) AllReadyH.nil)
       focus
        go_simp
        refine hK.out _ _ (hHeld) ?_
        clear hK K hHeld
        intro hHeld
        try simp only [Act.put, nmZ]
        refine rd1Z 14 (fun K hK => ?_)
        go_simp
        refine (HNM.out _ HW.out).mono ?_
        rintro e w3 ⟨rfl, b3⟩
        have HBS := Hd b3
        have d0 : w3.cell? ⟨w.heap.size + 1, 1, none⟩ = some v2 := cell_on (W := wr.drew) d0 b3
        have HW := Hd (to_ HW.out b3)
        have HPG := Hd (HPG.out.later b3)
        have HOB := Hd (HOB.out.below b3 HOB.out.lt)
        clear b3
        try go_wp2_with fail
        refine hK.out _ _ ((on6Z hHeld HBS.out)) ?_
        clear hK K hHeld
        intro hHeld
        try simp only [Act.put, nmZ]
        refine rd1Z 27 (fun K hK => ?_)
        go_simp
        refine (HRF.out _ HW.out).mono ?_
        rintro e w4 ⟨sA, sc, rfl, hil, b4⟩
        have HBS := Hd b4
        have HIL := Hd hil
        have d0 : w4.cell? ⟨w.heap.size + 1, 1, none⟩ = some v2 := cell_on d0 b4
        have HW := Hd (to_ HW.out b4)
        have HPG := Hd (HPG.out.later b4)
        have HOB := Hd (HOB.out.below b4 HOB.out.lt)
        clear b4 hil
        try go_wp2_with fail
        refine hK.out _ _ ((on6Z hHeld HBS.out)) ?_
        clear hK K hHeld
        intro hHeld
        try simp only [Act.put, nmZ]
        refine rd1Z 28 (fun K hK => ?_)
        go_simp
        refine (HBD.out _ HW.out _ _ HIL.out).mono ?_
        rintro e w5 ⟨vr, rfl, hro, b5⟩
        obtain ⟨qA, qc, rfl⟩ := own_form hro
        have HBS := Hd b5
        have d0 : w5.cell? ⟨w.heap.size + 1, 1, none⟩ = some v2 := cell_on d0 b5
        have HRO := Hd (show w5.ownsRow (w.heap.size + 2) 3 1 (.slice qA m9 qc) zr'.length (zr'.flatMap encI) from by rw [HZR.out]; exact own_lower hro HPG.out.box.lt)
        have HFZ := Hd (PgI.fresh HPG.out (R := (qA, m9, qc)) hro)
        have HW := Hd (to_ HW.out b5)
        have HPG := Hd (HPG.out.later b5)
        have HOB := Hd (HOB.out.below b5 HOB.out.lt)
        have hz5 := HPG.out.box.lt
        clear b5 hro
        try go_wp2_with fail
        refine hK.out _ _ ((on6Z hHeld HBS.out)) ?_
        clear hK K hHeld
        intro hHeld
        try simp only [Act.put, nmZ]
        refine tk1Z 29 hHeld ?_
        refine rd1Z 30 (fun K hK => ?_)
        go_simp
        have HBS := Hd (alloc_ w5 (.cells #[.int .i64 (i : Int), .int .i64 ((fn : Int) + (k : Int)), .string nm, .int .i64 kd, .slice kA kn kc, .slice rA rn rc, .slice qA m9 qc] 86))
        refine hK.out _ _ ((on6Z hHeld HBS.out)) ?_
       rotate_left
       focus
        go_simp
        refine (HNM.out _ HW.out).mono ?_
        rintro e w3 ⟨rfl, b3⟩
        have HBS := Hd b3
        have d0 : w3.cell? ⟨w.heap.size + 1, 1, none⟩ = some v2 := cell_on (W := wr.drew) d0 b3
        have HW := Hd (to_ HW.out b3)
        have HPG := Hd (HPG.out.later b3)
        have HOB := Hd (HOB.out.below b3 HOB.out.lt)
        clear b3
        try go_wp2_with fail
        refine hK.out _ _ ((on6Z hHeld HBS.out)) ?_
        clear hK K hHeld
        intro hHeld
        try simp only [Act.put, nmZ]
        refine wpAnyH_ready (rs := [1, 27]) (by kernel_rfl) (by simp) ?_
        refine AllReadyH.cons rfl (fun K hK => ?_) (AllReadyH.cons rfl (fun K hK => ?_) AllReadyH.nil)
        focus
         go_simp
         refine hK.out _ _ (hHeld) ?_
         clear hK K hHeld
         intro hHeld
         try simp only [Act.put, nmZ]
         refine rd1Z 27 (fun K hK => ?_)
         go_simp
         refine (HRF.out _ HW.out).mono ?_
         rintro e w4 ⟨sA, sc, rfl, hil, b4⟩
         have HBS := Hd b4
         have HIL := Hd hil
         have d0 : w4.cell? ⟨w.heap.size + 1, 1, none⟩ = some v2 := cell_on d0 b4
         have HW := Hd (to_ HW.out b4)
         have HPG := Hd (HPG.out.later b4)
         have HOB := Hd (HOB.out.below b4 HOB.out.lt)
         clear b4 hil
         try go_wp2_with fail
         refine hK.out _ _ ((on6Z hHeld HBS.out)) ?_
         clear hK K hHeld
         intro hHeld
         try simp only [Act.put, nmZ]
         refine rd1Z 28 (fun K hK => ?_)
         go_simp
         refine (HBD.out _ HW.out _ _ HIL.out).mono ?_
         rintro e w5 ⟨vr, rfl, hro, b5⟩
         obtain ⟨qA, qc, rfl⟩ := own_form hro
         have HBS := Hd b5
         have d0 : w5.cell? ⟨w.heap.size + 1, 1, none⟩ = some v2 := cell_on d0 b5
         have HRO := Hd (show w5.ownsRow (w.heap.size + 2) 3 1 (.slice qA m9 qc) zr'.length (zr'.flatMap encI) from by rw [HZR.out]; exact own_lower hro HPG.out.box.lt)
         have HFZ := Hd (PgI.fresh HPG.out (R := (qA, m9, qc)) hro)
         have HW := Hd (to_ HW.out b5)
         have HPG := Hd (HPG.out.later b5)
         have HOB := Hd (HOB.out.below b5 HOB.out.lt)
         have hz5 := HPG.out.box.lt
         clear b5 hro
         try go_wp2_with fail
         refine hK.out _ _ ((on6Z hHeld HBS.out)) ?_
         clear hK K hHeld
         intro hHeld
         try simp only [Act.put, nmZ]
         refine tk1Z 29 hHeld ?_
         refine rd1Z 30 (fun K hK => ?_)
         go_simp
         have HBS := Hd (alloc_ w5 (.cells #[.int .i64 (i : Int), .int .i64 ((fn : Int) + (k : Int)), .string nm, .int .i64 kd, .slice kA kn kc, .slice rA rn rc, .slice qA m9 qc] 86))
         refine hK.out _ _ ((on6Z hHeld HBS.out)) ?_
        rotate_left
        focus
         go_simp
         refine (HRF.out _ HW.out).mono ?_
         rintro e w4 ⟨sA, sc, rfl, hil, b4⟩
         have HBS := Hd b4
         have HIL := Hd hil
         have d0 : w4.cell? ⟨w.heap.size + 1, 1, none⟩ = some v2 := cell_on d0 b4
         have HW := Hd (to_ HW.out b4)
         have HPG := Hd (HPG.out.later b4)
         have HOB := Hd (HOB.out.below b4 HOB.out.lt)
         clear b4 hil
         try go_wp2_with fail
         refine hK.out _ _ ((on6Z hHeld HBS.out)) ?_
         clear hK K hHeld
         intro hHeld
         try simp only [Act.put, nmZ]
         refine wpAnyH_ready (rs := [1, 28]) (by kernel_rfl) (by simp) ?_
         refine AllReadyH.cons rfl (fun K hK => ?_) (AllReadyH.cons rfl (fun K hK => ?_) AllReadyH.nil)
         focus
          go_simp
          refine hK.out _ _ (hHeld) ?_
          clear hK K hHeld
          intro hHeld
          try simp only [Act.put, nmZ]
          refine rd1Z 28 (fun K hK => ?_)
          go_simp
          refine (HBD.out _ HW.out _ _ HIL.out).mono ?_
          rintro e w5 ⟨vr, rfl, hro, b5⟩
          obtain ⟨qA, qc, rfl⟩ := own_form hro
          have HBS := Hd b5
          have d0 : w5.cell? ⟨w.heap.size + 1, 1, none⟩ = some v2 := cell_on d0 b5
          have HRO := Hd (show w5.ownsRow (w.heap.size + 2) 3 1 (.slice qA m9 qc) zr'.length (zr'.flatMap encI) from by rw [HZR.out]; exact own_lower hro HPG.out.box.lt)
          have HFZ := Hd (PgI.fresh HPG.out (R := (qA, m9, qc)) hro)
          have HW := Hd (to_ HW.out b5)
          have HPG := Hd (HPG.out.later b5)
          have HOB := Hd (HOB.out.below b5 HOB.out.lt)
          have hz5 := HPG.out.box.lt
          clear b5 hro
          try go_wp2_with fail
          refine hK.out _ _ ((on6Z hHeld HBS.out)) ?_
          clear hK K hHeld
          intro hHeld
          try simp only [Act.put, nmZ]
          refine tk1Z 29 hHeld ?_
          refine rd1Z 30 (fun K hK => ?_)
          go_simp
          have HBS := Hd (alloc_ w5 (.cells #[.int .i64 (i : Int), .int .i64 ((fn : Int) + (k : Int)), .string nm, .int .i64 kd, .slice kA kn kc, .slice rA rn rc, .slice qA m9 qc] 86))
          refine hK.out _ _ ((on6Z hHeld HBS.out)) ?_
         rotate_left
         focus
          go_simp
          refine (HBD.out _ HW.out _ _ HIL.out).mono ?_
          rintro e w5 ⟨vr, rfl, hro, b5⟩
          obtain ⟨qA, qc, rfl⟩ := own_form hro
          have HBS := Hd b5
          have d0 : w5.cell? ⟨w.heap.size + 1, 1, none⟩ = some v2 := cell_on d0 b5
          have HRO := Hd (show w5.ownsRow (w.heap.size + 2) 3 1 (.slice qA m9 qc) zr'.length (zr'.flatMap encI) from by rw [HZR.out]; exact own_lower hro HPG.out.box.lt)
          have HFZ := Hd (PgI.fresh HPG.out (R := (qA, m9, qc)) hro)
          have HW := Hd (to_ HW.out b5)
          have HPG := Hd (HPG.out.later b5)
          have HOB := Hd (HOB.out.below b5 HOB.out.lt)
          have hz5 := HPG.out.box.lt
          clear b5 hro
          try go_wp2_with fail
          refine hK.out _ _ ((on6Z hHeld HBS.out)) ?_
          clear hK K hHeld
          intro hHeld
          try simp only [Act.put, nmZ]
          refine tk1Z 29 hHeld ?_
          refine wpAnyH_ready (rs := [1, 30]) (by kernel_rfl) (by simp) ?_
          refine AllReadyH.cons rfl (fun K hK => ?_) (AllReadyH.cons rfl (fun K hK => ?_) AllReadyH.nil)
          focus
           go_simp
           refine hK.out _ _ (hHeld) ?_
           clear hK K hHeld
           intro hHeld
           try simp only [Act.put, nmZ]
           refine rd1Z 30 (fun K hK => ?_)
           go_simp
           have HBS := Hd (alloc_ w5 (.cells #[.int .i64 (i : Int), .int .i64 ((fn : Int) + (k : Int)), .string nm, .int .i64 kd, .slice kA kn kc, .slice rA rn rc, .slice qA m9 qc] 86))
           refine hK.out _ _ ((on6Z hHeld HBS.out)) ?_
          rotate_left
          focus
           go_simp
           have HBS := Hd (alloc_ w5 (.cells #[.int .i64 (i : Int), .int .i64 ((fn : Int) + (k : Int)), .string nm, .int .i64 kd, .slice kA kn kc, .slice rA rn rc, .slice qA m9 qc] 86))
           refine hK.out _ _ ((on6Z hHeld HBS.out)) ?_
           clear hK K hHeld
           intro hHeld
           try simp only [Act.put, nmZ]
           refine rd1Z 1 (fun K hK => ?_)
           go_simp
           refine hK.out _ _ (hHeld) ?_
          rotate_left
         rotate_left 2
        rotate_left 3
       rotate_left 4
       all_goals
        clear hK K hHeld
        intro hHeld
        try simp only [Act.put, nmZ]
        refine rd1Z 31 (fun K hK => ?_)
        have HNO := Hd (show v2.ownBlock ≠ some O from blk_not HOB.out HPG.out.dr (by decide))
        have KH := hHeld
        refine step_append_own rfl _ _ 27 rfl (w.heap.size + 2) 86 iD (.agg #[.int .i64 0, .int .i64 0, .string ⟨#[]⟩, .int .i64 0, .slice none 0 0, .slice none 0 0, .slice none 0 0]) 7 112 Tryz.underlying27 hiD hzD0 hzD1 hzD2 rfl (by decide) _ ds.length (ds.flatMap encGd) rfl (own_on HPG.out.dr (alloc_ _ _)) ⟨w5.heap.size, 0, none⟩ 1 [.int .i64 (i : Int), .int .i64 ((fn : Int) + (k : Int)), .string nm, .int .i64 kd, .slice kA kn kc, .slice rA rn rc, .slice qA m9 qc] rfl rfl (fun j u hu => by rw [add_plain, Nat.zero_add]; exact ((Blk.new w5 86 #[.int .i64 (i : Int), .int .i64 ((fn : Int) + (k : Int)), .string nm, .int .i64 kd, .slice kA kn kc, .slice rA rn rc, .slice qA m9 qc]).cell j).trans (by simpa using hu)) (by simp [Value.oneCell']) (by unfold maxLen; have := HLN.out; omega) (by have := HLN.out; omega) (by simp; omega) ?_
        intro v' w6 h2 h3
        obtain ⟨xA, xc, rfl⟩ := own_form h2
        have HFIN := Hd (PgI.addD HPG.out (⟨i, fn + k, nm, ⟨kd, (kA, kn, kc), (rA, rn, rc)⟩, (qA, m9, qc), zr'⟩) HRO.out HFZ.out _ h2 h3)
        have e0 : w6.cell? ⟨w.heap.size + 1, 1, none⟩ = some (v2) := (blk_grown (HPG.out.later (alloc_ _ _)).box h3 (own_ne HPG.out.dr (by omega))).cell 1
        have g0 : w6.frozen? ⟨w.heap.size + 1, 1, none⟩ = false := (blk_grown (HPG.out.later (alloc_ _ _)).box h3 (own_ne HPG.out.dr (by omega))).frozen 1
        have HOB2 := Hd (blk_far (blk_grown (HOB.out.alloc _) h3 HNO.out) (p := ⟨w.heap.size + 1, 1, none⟩) (x := .slice xA (ds.length + 1) xc) HOD.out)
        have HK6 := Hd (show (fun W => W.cell? ⟨O, 0, none⟩ = some (.slice oA on oc) ∧ W.cell? ⟨O, 1, none⟩ = some (.slice fA fn fc) ∧ W.cell? ⟨O, 2, none⟩ = some (.slice (some ad) dn dc) ∧ W.cell? (ad.add (k * 3)) = some (.int .i64 kd) ∧ W.cell? ⟨(ad.add (k * 3)).block, (ad.add (k * 3)).off + 1, none⟩ = some (.slice kA kn kc) ∧ W.cell? ⟨(ad.add (k * 3)).block, (ad.add (k * 3)).off + 2, none⟩ = some (.slice rA rn rc)) w6 from ⟨cell_step KH.1 h3 HNO.out, cell_step KH.2.1 h3 HNO.out, cell_step KH.2.2.1 h3 HNO.out, cell_step KH.2.2.2.1 h3 (own_ne HPG.out.dr (by rw [add_block]; have := HAD.out; omega)), cell_step KH.2.2.2.2.1 h3 (own_ne HPG.out.dr (by show (ad.add (k * 3)).block < _; rw [add_block]; have := HAD.out; omega)), cell_step KH.2.2.2.2.2 h3 (own_ne HPG.out.dr (by show (ad.add (k * 3)).block < _; rw [add_block]; have := HAD.out; omega))⟩)
        have h6 := HK6.out
        clear h2 h3 KH
        refine hK.out _ _ (h6) ?_
        clear hK K hHeld
        intro hHeld
        try simp only [Act.put, nmZ]
        clear h6
        refine tk1Z 32 hHeld ?_
        refine rd1Z 33 (fun K hK => ?_)
        go_simp
        refine hK.out _ _ (⟨cell_far HK6.out.1 HOD.out, cell_far HK6.out.2.1 HOD.out, cell_far HK6.out.2.2.1 HOD.out, cell_far HK6.out.2.2.2.1 (by rw [add_block]; show ad.block ≠ w.heap.size + 1; have := HAD.out; omega), cell_far HK6.out.2.2.2.2.1 (by show (ad.add (k * 3)).block ≠ w.heap.size + 1; rw [add_block]; have := HAD.out; omega), cell_far HK6.out.2.2.2.2.2 (by show (ad.add (k * 3)).block ≠ w.heap.size + 1; rw [add_block]; have := HAD.out; omega)⟩) ?_
        clear hK K hHeld
        intro hHeld
        try simp only [Act.put, nmZ]
        refine wpAnyH_done (by kernel_rfl) ?_ _
        refine NoPanic.normal ?_
        clear d0 e0 g0
        go_wp2_with fail
        go_roundw
        case rel => exact ⟨k + 1, _, _, by have := HLT.out; omega, by go_num, HFIN, HOB2, Hd (HFO.out _ rfl)⟩
        case measure => have := HLT.out; simp [intOf]; omega
      ·obtain rfl : dn = k := by omega
       have HDS1 := Hd (show DOk os dv (dpos os (i + 1) 0) ds from by have := HDS.out; rw [HND.out] at this; exact this)
       have hlt9 := HLT0.out
       go_wp2_with fail
       go_roundw
       case rel => exact ⟨i + 1, fs, ds, v1, v2, by omega, by go_num, HPG, HFS1, HDS1⟩
       case measure => simp [intOf]; omega
  ·obtain rfl : n = i := by omega
   obtain ⟨pA, pc, rfl⟩ := own_form HPG0.out.fr
   obtain ⟨qA, qc, rfl⟩ := own_form HPG0.out.dr
   have d0 : wr.cell? ⟨w.heap.size + 1, 0, none⟩ = some (.slice pA fs0.length pc) := HPG0.out.box.cell 0
   have d1 : wr.cell? ⟨w.heap.size + 1, 1, none⟩ = some (.slice qA ds0.length qc) := HPG0.out.box.cell 1
   have d2 : wr.cell? ⟨w.heap.size + 1, 2, none⟩ = some (.int .i64 0) := HPG0.out.box.cell 2
   have r0 : wr.cell? ⟨w.heap.size, 0, none⟩ = some (.slice none 0 0) := HPG0.out.res.cell 0
   have r1 : wr.cell? ⟨w.heap.size, 1, none⟩ = some (.slice none 0 0) := HPG0.out.res.cell 1
   have r2 : wr.cell? ⟨w.heap.size, 2, none⟩ = some (.int .i64 0) := HPG0.out.res.cell 2
   have g0 := HPG0.out.res.frozen 0
   have g1 := HPG0.out.res.frozen 1
   have g2 := HPG0.out.res.frozen 2
   have hrl := HPG0.out.res.lt
   have hf3 : Blk (((wr.setCell ⟨w.heap.size, 0, none⟩ (.slice pA fs0.length pc)).setCell ⟨w.heap.size, 1, none⟩ (.slice qA ds0.length qc)).setCell ⟨w.heap.size, 2, none⟩ (.int .i64 0)) w.heap.size 29 #[.slice pA fs0.length pc, .slice qA ds0.length qc, .int .i64 0] := ((HPG0.out.res.stored 0 _).stored 1 _).stored 2 _
   have HF3 := Hd hf3
   clear hf3
   go_wp2_with fail
   have c0 := HF3.out.cell 0
   have c1 := HF3.out.cell 1
   have c2 := HF3.out.cell 2
   refine bodyPost_ret (v := .agg #[.slice pA fs0.length pc, .slice qA ds0.length qc, .int .i64 0]) (by simp [results, Tryz.results41, go_sem, c0, c1, c2]) rfl ⟨fs0, ds0, _, _, rfl, HFS0.out, HDS0.out, ?_, ?_⟩
   ·exact (((HPG0.out.low.setCell (p := ⟨w.heap.size, 0, none⟩) (by simp) _).setCell (p := ⟨w.heap.size, 1, none⟩) (by simp) _).setCell (p := ⟨w.heap.size, 2, none⟩) (by simp) _)
   ·exact ((HPG0.out.out.cell ⟨w.heap.size, 0, none⟩ _ (by show w.heap.size < w.heap.size + 2; omega)).cell ⟨w.heap.size, 1, none⟩ _ (by show w.heap.size < w.heap.size + 2; omega)).cell ⟨w.heap.size, 2, none⟩ _ (by show w.heap.size < w.heap.size + 2; omega)
end Go.Proofs.YtdaimeaofgbfpaaGreat.Bo
