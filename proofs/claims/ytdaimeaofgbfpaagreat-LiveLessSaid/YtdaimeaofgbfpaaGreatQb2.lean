/-
 Zd2 Ze2 Qa2 Qb2
-/
import Derived.RangeFuncNested
import Derived.RangeFuncBound
import Derived.RangeFuncCalls
import Derived.RangeFuncLeaves
import Derived.Below
import Derived.Deep.Draws
import Derived.Laws.OwnMore
import Derived.Laws.Rows
import Derived.OwnWalk
import Derived.Laws.AppendOwn
import Derived.Laws.AppendOwnNone
import Derived.Maps.OwnIn
import Derived.Test.YtdaimeaofgbfpaaGreatZa2
import Derived.Test.YtdaimeaofgbfpaaGreatRows
import Derived.WalkKit
import Derived.ProofKit
import Derived.Lib.Hide
import Derived.BigQuiet
import Derived.Deep.QuietTactic
import Derived.LoopTactic
import Derived.IntWalk
import Derived.Shelf.Abstract
import Derived.OwnWalkIn
import Derived.TacticsInMore
import Derived.LoopNIn
import Derived.LoopIn
import Derived.Deep.RegionHeld3
import Derived.Laws.EntriesVeiled
set_option linter.unusedSimpArgs false
set_option linter.unusedVariables false
namespace Go.Proofs.YtdaimeaofgbfpaaGreat.Rf
open Go.RowKit
structure Keeps (U : Nat → Prop) (W W' : World) : Prop where
 os : W'.os = W.os
 tape : W'.tape = W.tape
 output : W'.output = W.output
 size : W.heap.size ≤ W'.heap.size
 block : ∀ k, U k → k < W.heap.size → W'.heap[k]? = W.heap[k]?
section
variable {U V : Nat → Prop} {A B C : World}
theorem Keeps.refl (U : Nat → Prop) (A : World) : Keeps U A A := ⟨rfl, rfl, rfl, Nat.le_refl _, fun _ _ _ => rfl⟩
theorem Keeps.trans (h : Keeps U A B) (k : Keeps U B C) : Keeps U A C :=
 ⟨k.os.trans h.os, k.tape.trans h.tape, k.output.trans h.output, Nat.le_trans h.size k.size, fun i hi hA => (k.block i hi (Nat.lt_of_lt_of_le hA h.size)).trans (h.block i hi hA)⟩
theorem Keeps.mono (h : Keeps U A B) (hV : ∀ k, V k → k < A.heap.size → U k) : Keeps V A B := ⟨h.os, h.tape, h.output, h.size, fun k hk hA => h.block k (hV k hk hA) hA⟩
theorem Keeps.of_below {n : Nat} (h : Below n A B) (hU : ∀ k, U k → k < A.heap.size → k < n) : Keeps U A B := ⟨h.os, h.tape, h.output, h.size, fun k hk hA => h.block k (hU k hk hA)⟩
theorem Keeps.below {n : Nat} (h : Keeps U A B) (hn : n ≤ A.heap.size) (hU : ∀ k, k < n → U k) : Below n A B := ⟨h.os, h.tape, h.output, h.size, fun k hk => h.block k (hU k hk) (by omega)⟩
theorem Keeps.drew (h : Keeps U A B) : Keeps U A B.drew := ⟨h.os, h.tape, h.output, h.size, h.block⟩
theorem Keeps.alloc (h : Keeps U A B) (o : Obj) : Keeps U A (B.alloc o) :=
 h.trans ⟨rfl, rfl, rfl, by simp, fun k _ hk => Below.heap_alloc _ _ _ hk⟩
theorem Keeps.setCell (h : Keeps U A B) {p : Addr} (hp : ¬ U p.block) (u : Value) : Keeps U A (B.setCell p u) :=
 h.trans ⟨rfl, rfl, rfl, by simp [World.setCell], fun k hk _ => Below.heap_setCell _ _ _ _ (fun e => hp (e ▸ hk))⟩
theorem Keeps.putObj (h : Keeps U A B) {l : Nat} (hl : ¬ U l) (o : Obj) : Keeps U A (B.putObj l o) :=
 h.trans ⟨rfl, rfl, rfl, by simp, fun k hk _ => World.putObj_heap_other (fun e => hl (e ▸ hk))⟩
theorem Keeps.grown {row : Option Nat} (h : Keeps U A B) (hg : B.grownBy C row) (hr : ∀ r, row = some r → ¬ U r) : Keeps U A C :=
 h.trans ⟨hg.os, hg.tape, hg.output, hg.size, fun k hk hB => hg.block k hB (fun e => hr k e.symm hk)⟩
theorem Keeps.cell (h : Keeps U A B) {p : Addr} {v : Value} (hp : U p.block) (hc : A.cell? p = some v) : B.cell? p = some v :=
 (World.cell?_of_block (w := A) (h.block _ hp (World.block_lt_of_cell? A _ hc))).trans hc
end
variable {F : Fence} {n : Nat} {P : Program}
def Tells {α : Type} (F : Fence) (n : Nat) (P : Program) (g : Nat) (lb : Array Value) (encs : α → Array Value) (U T : Nat → Nat → Prop) (xs : List α) (w : World) : Prop :=
 ∀ (l : Nat) (J Jx : List α → World → Prop) (W : World), Below w.heap.size w W →
  (∀ s A B, J s A → Keeps (T W.heap.size) A B → J s B) →
  (∀ pre x W1, J pre W1 → pre ++ [x] <+: xs → YieldAt F (n - 1) P l (encs x) W1 fun e W' =>
   (e = .returned (.bool true) ∧ J (pre ++ [x]) W' ∧ Keeps (U W.heap.size) W1 W') ∨ (e = .returned (.bool false) ∧ Jx (pre ++ [x]) W')) →
  J [] W →
  CallsIn F n P g (#[.func (.yield l) #[] #[]] ++ lb) W fun e W' => (∃ v, e = .returned v) ∧ (J xs W' ∨ ∃ pre, pre <+: xs ∧ Jx pre W')
def Two (d : Nat) (k : Nat) : Prop := k = d ∨ k = d + 1
def roundEnd {α : Type} (d : Nat) (K : Nat → Prop) (I : List α → World → Prop) (Ix : Code → List α → World → Prop) (xs : List α) (W : World) : Exit → Act → World → Prop
 | .normal, _, W' => Keeps (fun k => K k ∨ Two d k) W W' ∧ I xs W'
 | .ret, _, W' => Keeps (Two d) W W' ∧ Ix .ret xs W'
 | .exit id, _, W' => Keeps (Two d) W W' ∧ Ix (.exit id) xs W'
 | .goto t, _, W' => Keeps (Two d) W W' ∧ Ix (.goto t) xs W'
 | .panic _, _, _ => False
 | .outgrown, _, _ => False
def Rec (d : Nat) (r : Loop) (W : World) : Prop := W.heap[d + 1]? = some (.loop r) ∧ W.heap[d]? = some (.deferred (some []))
theorem Rec.keep {d : Nat} {r : Loop} {A B : World} {U : Nat → Prop} (h : Rec d r A) (hk : Keeps U A B) (hU : ∀ k, Two d k → U k) : Rec d r B :=
 ⟨(hk.block _ (hU _ (.inr rfl)) (Array.getElem?_eq_some_iff.1 h.1).1).trans h.1, (hk.block _ (hU _ (.inl rfl)) (Array.getElem?_eq_some_iff.1 h.2).1).trans h.2⟩
theorem Rec.put {d : Nat} {r : Loop} {A : World} (r' : Loop) (h : Rec d r A) : Rec d r' (A.putObj (d + 1) (.loop r')) :=
 ⟨World.putObj_heap_same (Array.getElem?_eq_some_iff.1 h.1).1, (World.putObj_heap_other (by omega)).trans h.2⟩
theorem cell_putLoop {W : World} {d : Nat} {x y : Loop} (h : W.heap[d]? = some (.loop x)) (p : Addr) : (W.putObj d (.loop y)).cell? p = W.cell? p := by
 by_cases e : p.block = d
 ·have h1 := World.putObj_heap_same (w := W) (o := .loop y) (Array.getElem?_eq_some_iff.1 h).1
  rw [← e] at h h1
  unfold World.cell?
  rw [← e, h1, h]
 ·exact World.cell?_of_block (World.putObj_heap_other e)
theorem wpIn_range {α : Type} {g : Operand} {ps : Array Tmp} {assign body : Code} {Q : Exit → Act → World → Prop} {a : Act} {w : World}
  (hro : F.round = none) (h1 : 1 ≤ n) {gf : Nat} {lb : Array Value} (hg : a.eval g = .func (.func gf) #[] lb) (hFg : F.fn gf) (eg : ∀ args w, (callFunc gf args).run P w = .ok (.enter gf args) w)
  {encs : α → Array Value} {U T : Nat → Nat → Prop} {xs : List α} {w0 : World} (hseq : Tells F (n - 1) P gf lb encs U T xs w0) (hb0 : Below w0.heap.size w0 w) (hps : ∀ x, (encs x).size = ps.size)
  (V : Nat → Prop) (hV : ∀ k, Two w.heap.size k → ¬ V k) (hVT : ∀ k, V k → T (w.heap.size + 2) k) (hTT : ∀ k, Two w.heap.size k → T (w.heap.size + 2) k) (hU : ¬ U (w.heap.size + 2) (w.heap.size + 1))
  (I : List α → World → Prop) (Ix : Code → List α → World → Prop) (hI : ∀ s A B, I s A → Keeps V A B → I s B) (hIx : ∀ c s A B, Ix c s A → Keeps (fun k => ¬ Two w.heap.size k) A B → (∀ p, B.cell? p = A.cell? p) → Ix c s B)
  (h0 : I [] w) (a₁ : α → Act)
  (hassign : ∀ (l : Nat) (x : α) (W : World) (K : Act → World → Prop), K (a₁ x) W →
   assign.wpIn (F.inRound l) (n - 1 - 1) P (Exit.then K (fun _ _ _ => False)) { tmps := (ps.zip (encs x)).foldl (fun t (p, v) => t.setIfInBounds p v) a.tmps, defers := [] } W)
  (hbody : ∀ (l : Nat) (pre : List α) (x : α) (W : World), I pre W → pre ++ [x] <+: xs → w.heap.size + 2 ≤ W.heap.size →
   body.wpIn (F.inRound l) (n - 1 - 1) P (roundEnd w.heap.size (U (w.heap.size + 2)) I Ix (pre ++ [x]) W) (a₁ x) W)
  (hdone : ∀ (W : World), I xs W → W.heap[w.heap.size]? = some (.deferred (some [])) → Q .normal { a with defers := { target := .collected w.heap.size, args := #[] } :: a.defers } W)
  (hstop : ∀ (c : Code) (pre : List α) (W : World), pre <+: xs → Ix c pre W → W.heap[w.heap.size]? = some (.deferred (some [])) → c.wpIn F n P Q { a with defers := { target := .collected w.heap.size, args := #[] } :: a.defers } W) :
  (Code.rangeFunc g ps assign body).wpIn F n P Q a w := by
 refine wpIn_rangeFunc fun fn hfn => ?_
 rw [hro]
 obtain ⟨r, hr⟩ : ∃ r : LoopState → Option Code → Loop, r = fun st pe => { state := st, pending := pe, fn := fn, tmps := a.tmps, params := ps, assign := assign, body := body, defers := w.heap.size } := ⟨_, rfl⟩
 obtain ⟨W1, hW1⟩ : ∃ W1, (w.alloc (.deferred (some []))).alloc (.loop (r .ready none)) = W1 := ⟨_, rfl⟩
 have hs1 : W1.heap.size = w.heap.size + 2 := by rw [← hW1]; simp
 have hR1 : Rec w.heap.size (r .ready none) W1 := by
  rw [← hW1]
  refine ⟨?_, (Below.heap_alloc _ _ _ (by simp)).trans (World.alloc_heap_new w _)⟩
  have := World.alloc_heap_new (w.alloc (.deferred (some []))) (.loop (r .ready none))
  rwa [World.size_alloc] at this
 have hk1 : Keeps V w W1 := by rw [← hW1]; exact ((Keeps.refl V w).alloc _).alloc _
 have hb1 : Below w0.heap.size w0 W1 := by
  rw [← hW1]; exact hb0.trans ((((Below.refl _ w).alloc (Nat.le_refl _) _).alloc (by simp) _).mono hb0.size)
 refine ⟨w.heap.size + 1, [{ target := .collected w.heap.size, args := #[] }], W1, { target := .fn (.func gf) lb, args := #[.func (.yield (w.heap.size + 1)) #[] #[]] }, W1, gf,
  #[.func (.yield (w.heap.size + 1)) #[] #[]] ++ lb, W1, ?_, ?_, ?_, ?_, fun _ => h1, ?_⟩
 ·rw [← hW1, hr]; exact run_enterLoop_outer _ _ _ _ _
 ·simp only [resolve, hg]
  simp [go_sem]
 ·intro f' hf'; simp [Target.leads] at hf'; subst hf'; exact hFg
 ·simp [invoke, go_sem, eg]
 refine (hseq (w.heap.size + 1) (fun pre W => I pre W ∧ Rec w.heap.size (r .ready none) W) (fun pre W => ∃ c, Ix c pre W ∧ Rec w.heap.size (r .done (some c)) W) W1 hb1
  (fun s A B hs hk => ⟨hI s A B hs.1 (hk.mono fun k hv _ => hs1 ▸ hVT k hv), hs.2.keep hk (fun k h => hs1 ▸ hTT k h)⟩)
  ?_ ⟨hI _ _ _ h0 hk1, hR1⟩).mono ?_
 ·rintro pre x W ⟨hi, hrec⟩ hpre
  have hy := run_yield (P := P) (args := encs x) hrec.1 (by rw [hr]; exact hps x)
  have hst : (r .ready none).state = .ready := by rw [hr]
  obtain ⟨B, hB⟩ : ∃ B : Loop, B = { r .ready none with state := .busy } := ⟨_, rfl⟩
  refine ⟨fn, _, assign, body, by rw [hy, hr], roundIn_of_wpIn hfn (hassign _ x W _ ⟨_, run_beginRound hrec.1 hst, ?_⟩)⟩
  rw [← hB]
  have hnV : ¬ V (w.heap.size + 1) := hV _ (.inr rfl)
  have hrb : Rec w.heap.size B (W.putObj (w.heap.size + 1) (.loop B)) := hrec.put B
  have hi2 : I pre (W.putObj (w.heap.size + 1) (.loop B)) := hI _ _ _ hi ((Keeps.refl V W).putObj hnV _)
  have hsz : w.heap.size + 2 ≤ W.heap.size := by have := (Array.getElem?_eq_some_iff.1 hrec.1).1; omega
  refine wpIn_mono (hbody _ pre x _ hi2 hpre (by simpa using hsz)) ?_
  have fin : ∀ (j : Option Code) (W3 : World), Rec w.heap.size B W3 →
    (Instr.endRound (w.heap.size + 1) j).run P W3 = .ok (.bool j.isNone) (W3.putObj (w.heap.size + 1) (.loop (r (if j.isNone then .ready else .done) j))) ∧
    Rec w.heap.size (r (if j.isNone then .ready else .done) j) (W3.putObj (w.heap.size + 1) (.loop (r (if j.isNone then .ready else .done) j))) := fun j W3 h3 => by
   have := run_endRound (P := P) j h3.1
   rw [hB, hr] at this
   refine ⟨by rw [this, hr], h3.put _⟩
  intro e a3 W3 hp
  cases e with
  | normal =>
   obtain ⟨hk3, hi3⟩ := hp
   obtain ⟨hrun, hr3⟩ := fin none W3 (hrb.keep hk3 fun k h => .inr h)
   refine ⟨_, _, hrun, .inl ⟨rfl, ⟨hI _ _ _ hi3 ((Keeps.refl V W3).putObj hnV _), hr3⟩, ?_⟩⟩
   rw [hs1]
   exact (((Keeps.refl _ W).putObj hU _).trans (hk3.mono fun k h _ => .inl h)).putObj hU _
  | ret =>
   obtain ⟨hk3, hi3⟩ := hp
   have hrb3 := hrb.keep hk3 fun k h => h
   obtain ⟨hrun, hr3⟩ := fin (some .ret) W3 hrb3
   exact ⟨_, _, hrun, .inr ⟨rfl, .ret, hIx _ _ _ _ hi3 ((Keeps.refl _ W3).putObj (fun h => h (.inr rfl)) _) (cell_putLoop hrb3.1), hr3⟩⟩
  | exit id =>
   obtain ⟨hk3, hi3⟩ := hp
   have hrb3 := hrb.keep hk3 fun k h => h
   obtain ⟨hrun, hr3⟩ := fin (some (.exit id)) W3 hrb3
   exact ⟨_, _, hrun, .inr ⟨rfl, .exit id, hIx _ _ _ _ hi3 ((Keeps.refl _ W3).putObj (fun h => h (.inr rfl)) _) (cell_putLoop hrb3.1), hr3⟩⟩
  | goto t =>
   obtain ⟨hk3, hi3⟩ := hp
   have hrb3 := hrb.keep hk3 fun k h => h
   obtain ⟨hrun, hr3⟩ := fin (some (.goto t)) W3 hrb3
   exact ⟨_, _, hrun, .inr ⟨rfl, .goto t, hIx _ _ _ _ hi3 ((Keeps.refl _ W3).putObj (fun h => h (.inr rfl)) _) (cell_putLoop hrb3.1), hr3⟩⟩
  | panic ch => exact hp.elim
  | outgrown => exact hp.elim
 ·have hnV : ¬ V (w.heap.size + 1) := hV _ (.inr rfl)
  rintro e W2 ⟨⟨v, rfl⟩, (⟨hi, hrec⟩ | ⟨pre, hpre, c, hi, hrec⟩)⟩
  ·have hb : (r .ready none).state ≠ .busy := by rw [hr]; simp
   have := run_endLoop (P := P) hrec.1 hb
   refine ⟨none, _, by rw [this, hr], hdone _ (hI _ _ _ hi ((Keeps.refl V W2).putObj hnV _)) ((World.putObj_heap_other (by omega)).trans hrec.2)⟩
  ·have hb : (r .done (some c)).state ≠ .busy := by rw [hr]; simp
   have := run_endLoop (P := P) hrec.1 hb
   refine ⟨some c, _, by rw [this, hr], hstop c pre _ hpre (hIx _ _ _ _ hi ((Keeps.refl _ W2).putObj (fun h => h (.inr rfl)) _) (cell_putLoop hrec.1)) ((World.putObj_heap_other (by omega)).trans hrec.2)⟩
variable {F : Fence} {n : Nat} {P : Program}
variable {F : Fence} {n : Nat} {P : Program}
end Go.Proofs.YtdaimeaofgbfpaaGreat.Rf
namespace Go.Proofs.YtdaimeaofgbfpaaGreat.Mem
open Go.RowKit
def Row (w : World) (B : Nat) (ad : Addr) (vs : List Value) : Prop :=
 ∀ j u, vs[j]? = some u → ad.block < B ∧ w.cell? (ad.add j) = some u
inductive SlV (w : World) (B : Nat) : Value → List Value → Prop
 | nil : SlV w B (.slice none 0 0) []
 | at_ (ad : Addr) (cap : Nat) (vs : List Value) (hc : vs.length ≤ cap) (hm : cap ≤ maxLen) (h : Row w B ad vs) : SlV w B (.slice (some ad) vs.length cap) vs
theorem add_block (a : Addr) (n : Nat) : (a.add n).block = a.block := by
 unfold Addr.add; split <;> rfl
theorem add_plain (b o n : Nat) : (⟨b, o, none⟩ : Addr).add n = ⟨b, o + n, none⟩ := by
 unfold Addr.add; split <;> simp_all
theorem add_twice (a : Addr) (i j : Nat) : (a.add i).add j = a.add (i + j) := by
 unfold Addr.add
 by_cases hi : i = 0 <;> by_cases hj : j = 0 <;> simp [hi, hj, Nat.add_assoc]
section
variable {w w' : World} {B B' : Nat} {ad : Addr} {vs : List Value} {v : Value}
theorem Row.keep (h : Row w B ad vs) (hk : ∀ p : Addr, p.block < B → w'.cell? p = w.cell? p) : Row w' B ad vs := fun j u hu =>
 ⟨(h j u hu).1, (hk _ (by rw [add_block]; exact (h j u hu).1)).trans (h j u hu).2⟩
theorem Row.more (h : Row w B ad vs) (hB : B ≤ B') : Row w B' ad vs := fun j u hu => ⟨Nat.lt_of_lt_of_le (h j u hu).1 hB, (h j u hu).2⟩
theorem Row.at_ (h : Row w B ad vs) {j : Nat} (hj : j < vs.length) : w.cell? (ad.add j) = some vs[j] := (h j _ (List.getElem?_eq_getElem hj)).2
theorem Row.here (h : ∀ j u, vs[j]? = some u → w.cell? (ad.add j) = some u) : Row w w.heap.size ad vs := fun j u hu =>
 ⟨by have := World.block_lt_of_cell? w _ (h j u hu); rwa [add_block] at this, h j u hu⟩
theorem SlV.inv {A : Option Addr} {n c : Nat} (h : SlV w B (.slice A n c) vs) :
  (A = none ∧ n = 0 ∧ c = 0 ∧ vs = []) ∨ ∃ ad, A = some ad ∧ n = vs.length ∧ n ≤ c ∧ c ≤ maxLen ∧ Row w B ad vs := by
 generalize hv : Value.slice A n c = v at h
 cases h with
 | nil => injection hv with e1 e2 e3; exact .inl ⟨e1, e2, e3, rfl⟩
 | at_ ad cap _ hc hm h => injection hv with e1 e2 e3; subst e2 e3; exact .inr ⟨ad, e1, rfl, hc, hm, h⟩
theorem SlV.form (h : SlV w B v vs) : ∃ A c, v = .slice A vs.length c := by
 cases h with
 | nil => exact ⟨none, 0, rfl⟩
 | at_ ad cap _ _ _ _ => exact ⟨_, _, rfl⟩
theorem SlV.keep (h : SlV w B v vs) (hk : ∀ p : Addr, p.block < B → w'.cell? p = w.cell? p) : SlV w' B v vs := by
 cases h with
 | nil => exact .nil
 | at_ ad cap _ hc hm h => exact .at_ ad cap _ hc hm (h.keep hk)
theorem SlV.more (h : SlV w B v vs) (hB : B ≤ B') : SlV w B' v vs := by
 cases h with
 | nil => exact .nil
 | at_ ad cap _ hc hm h => exact .at_ ad cap _ hc hm (h.more hB)
theorem SlV.below (h : SlV w B v vs) (hb : Below B w w') : SlV w' B v vs := h.keep fun _ hp => hb.cell hp
theorem SlV.of_own {base : Nat} {e : TypeId} {n : Nat} (h : w.ownsRow base e 1 v n vs) : SlV w w.heap.size v vs := by
 have hl : vs.length = n := by simpa using h.1
 rcases h.2 with ⟨rfl, h0⟩ | ⟨g, cap, cur, rfl, _, hh, hc, hm, hs, ht⟩
 ·have : vs = [] := List.eq_nil_of_length_eq_zero (by omega)
  subst this
  exact .nil
 ·subst hl
  exact .at_ _ cap vs hc hm (Row.here (h.cells (g := g) rfl))
def Blk (w : World) (g : Nat) (t : TypeId) (cs : Array Value) : Prop := w.heap[g]? = some (.cells cs t (0, 0))
theorem Blk.lt {g : Nat} {t : TypeId} {cs : Array Value} (h : Blk w g t cs) : g < w.heap.size := by
 rcases Nat.lt_or_ge g w.heap.size with hlt | hge
 ·exact hlt
 ·unfold Blk at h; rw [Array.getElem?_eq_none hge] at h; cases h
theorem Blk.cell {g : Nat} {t : TypeId} {cs : Array Value} (h : Blk w g t cs) (i : Nat) : w.cell? ⟨g, i, none⟩ = cs[i]? := cell_of_row w g i cs t (0, 0) h
theorem Blk.frozen {g : Nat} {t : TypeId} {cs : Array Value} (h : Blk w g t cs) (i : Nat) : w.frozen? ⟨g, i, none⟩ = false := by
 unfold Blk at h
 simp [World.frozen?, h]
theorem Blk.new (w : World) (t : TypeId) (cs : Array Value) : Blk (w.alloc (.cells cs t)) w.heap.size t cs := heap_alloc_new w _
theorem Blk.alloc {g : Nat} {t : TypeId} {cs : Array Value} (h : Blk w g t cs) (o : Obj) : Blk (w.alloc o) g t cs := (Below.heap_alloc w o g h.lt).trans h
theorem Blk.stored {g : Nat} {t : TypeId} {cs : Array Value} (h : Blk w g t cs) (i : Nat) (u : Value) : Blk (w.setCell ⟨g, i, none⟩ u) g t (cs.setIfInBounds i u) := by
 unfold Blk at h ⊢
 simp [World.setCell, Array.getElem?_modify, h]
theorem Blk.below {g : Nat} {t : TypeId} {cs : Array Value} (h : Blk w g t cs) (hb : Below B w w') (hg : g < B) : Blk w' g t cs := (hb.block g hg).trans h
theorem SlV.new (w : World) (vs : List Value) (t : TypeId) (hm : vs.length ≤ maxLen) : SlV (w.alloc (.cells vs.toArray t)) (w.heap.size + 1) (.slice (some ⟨w.heap.size, 0, none⟩) vs.length vs.length) vs :=
 .at_ _ _ vs (Nat.le_refl _) hm (fun j u hu => by
  refine ⟨by simp, ?_⟩
  rw [add_plain, Nat.zero_add, (Blk.new w t vs.toArray).cell]
  simpa using hu)
theorem below_drewN {a : World} (h : Below B a w) (n : Nat) : Below B a (w.drewN n) := ⟨h.os, h.tape, h.output, h.size, h.block⟩
end
theorem wpList_append_slv {P : Program} (w : World) {ops : Array Oper} {rest : List Oper} {o : Oper} {a : Act} {Q : Exit → Act → World → Prop} (hgd : o.guard = none) (s x : Operand) (t : TypeId)
  (ho : o.op = .call { callee := .builtin .append, args := #[s, x], argTypes := #[t, t] })
  (base : Nat) (e : TypeId) (i : TypeInfo) (z : Value) (bytes : Nat) (ht : P.underlying t = some (.slice e)) (hi : P.info? e = some i) (hz : i.zero = some z)
  (hsize : i.size = 1) (hby : i.bytes = bytes) (hzs : z.cells.size = 1)
  (v : Value) (xs : List Value) (hs : a.eval s = v) (hown : w.ownsRow base e 1 v xs.length xs)
  (B : Nat) (u : Value) (vs : List Value) (hx : a.eval x = u) (hr : SlV w B u vs) (h1 : ∀ y ∈ vs, y.oneCell' = true)
  (h63 : xs.length + vs.length ≤ maxLen) (hbytes : (xs.length + vs.length) * bytes ≤ 140737488355328) (hbase : base ≤ w.heap.size)
  (h : ∀ v' w', w'.ownsRow base e 1 v' (xs ++ vs).length (xs ++ vs) → w.grownBy w' v.ownBlock → wpList P ops Q rest (a.put o.dst v') w') : wpList P ops Q (o :: rest) a w := by
 cases hr with
 | nil =>
  refine wpList_append_own_none hgd s x t ho base e i 1 ht hi v xs.length xs hs hown hx ?_
  exact h v w (by rw [List.append_nil]; exact hown) ⟨rfl, rfl, rfl, Nat.le_refl _, fun _ _ _ => rfl⟩
 | at_ ad cap _ hc hm hrow =>
  refine wpList_append_own w hgd s x t ho base e i z 1 bytes ht hi hz hsize hby hzs (by decide) v xs.length xs hs hown ad vs.length cap vs hx (by omega) (fun j y hy => (hrow j y hy).2) h1 h63 hbytes hbase ?_
  intro v' w' h2 h3 _
  exact h v' w' (by rw [List.length_append]; exact h2) h3
end Go.Proofs.YtdaimeaofgbfpaaGreat.Mem
namespace Go.Proofs.YtdaimeaofgbfpaaGreat.Bo
open Go.RowKit
open Mem Rf
section
variable {α : Type} {k : Nat} {enc : α → List Value} {w w' : World} {B B' n c : Nat} {v : Value} {A : Option Addr} {l : List α}
def Wd (k : Nat) (enc : α → List Value) (w : World) (B : Nat) (A : Option Addr) (n c : Nat) (l : List α) : Prop :=
 l.length = n ∧ n ≤ c ∧ c ≤ maxLen ∧ (A = none → c = 0) ∧ ∀ i x, l[i]? = some x → ∃ ad, A = some ad ∧ ad.block < B ∧ ∀ j u, (enc x)[j]? = some u → w.cell? ((ad.add (i * k)).add j) = some u
theorem Wd.keep (h : Wd k enc w B A n c l) (hk : ∀ p : Addr, p.block < B → w'.cell? p = w.cell? p) : Wd k enc w' B A n c l :=
 ⟨h.1, h.2.1, h.2.2.1, h.2.2.2.1, fun i x hi => by
  obtain ⟨ad, e, hb, hc⟩ := h.2.2.2.2 i x hi
  exact ⟨ad, e, hb, fun j u hu => (hk _ (by rw [add_block, add_block]; exact hb)).trans (hc j u hu)⟩⟩
theorem Wd.below (h : Wd k enc w B A n c l) (hb : Below B w w') : Wd k enc w' B A n c l := h.keep fun _ hp => hb.cell hp
theorem Wd.more (h : Wd k enc w B A n c l) (hB : B ≤ B') : Wd k enc w B' A n c l :=
 ⟨h.1, h.2.1, h.2.2.1, h.2.2.2.1, fun i x hi => by
  obtain ⟨ad, e, hb, hc⟩ := h.2.2.2.2 i x hi
  exact ⟨ad, e, by omega, hc⟩⟩
theorem Wd.nil : Wd k enc w B none 0 0 ([] : List α) := ⟨rfl, Nat.le_refl _, Nat.zero_le _, fun _ => rfl, fun i x hi => by simp at hi⟩
end
theorem add_field (x : Addr) (j : Nat) (hj : 0 < j) : x.add j = ⟨x.block, x.off + j, none⟩ := by
 unfold Addr.add
 rw [if_neg (by omega)]
theorem to_ {w w' w'' : World} (h : Below w.heap.size w w') (k : Below w'.heap.size w' w'') : Below w.heap.size w w'' := h.trans (k.mono h.size)
theorem alloc_ (w : World) (o : Obj) : Below w.heap.size w (w.alloc o) := (Below.refl _ w).alloc (Nat.le_refl _) o
abbrev Sy := ByteArray × Bool × Int × Int × Int
def encSy (x : Sy) : List Value := [.string x.1, .bool x.2.1, .int .i64 x.2.2.1, .int .i64 x.2.2.2.1, .int .i64 x.2.2.2.2]
def syAt (l : List Sy) (i : Nat) : Sy := l.getD i (⟨#[]⟩, false, 0, 0, 0)
theorem syAt_some {l : List Sy} {i : Nat} (h : i < l.length) : l[i]? = some (syAt l i) := by unfold syAt; rw [List.getD_eq_getElem?_getD, List.getElem?_eq_getElem h]; rfl
def SyL (w : World) (A : Option Addr) (n c : Nat) (l : List Sy) : Prop := Wd 5 encSy w w.heap.size A n c l
theorem SyL.at_ {w : World} {A : Option Addr} {n c : Nat} {l : List Sy} (h : SyL w A n c l) {i : Nat} (hi : i < n) :
  ∃ ad, A = some ad ∧ ad.block < w.heap.size ∧ w.cell? (ad.add (i * 5)) = some (.string (syAt l i).1) ∧ w.cell? ⟨(ad.add (i * 5)).block, (ad.add (i * 5)).off + 1, none⟩ = some (.bool (syAt l i).2.1) ∧ w.cell? ⟨(ad.add (i * 5)).block, (ad.add (i * 5)).off + 2, none⟩ = some (.int .i64 (syAt l i).2.2.1) ∧ w.cell? ⟨(ad.add (i * 5)).block, (ad.add (i * 5)).off + 3, none⟩ = some (.int .i64 (syAt l i).2.2.2.1) ∧ w.cell? ⟨(ad.add (i * 5)).block, (ad.add (i * 5)).off + 4, none⟩ = some (.int .i64 (syAt l i).2.2.2.2) := by
 obtain ⟨ad, e, hb, hc⟩ := h.2.2.2.2 i _ (syAt_some (by rw [h.1]; exact hi))
 have h0 := hc 0 _ rfl
 have h1 := hc 1 _ rfl
 have h2 := hc 2 _ rfl
 have h3 := hc 3 _ rfl
 have h4 := hc 4 _ rfl
 rw [add_field _ 1 (by omega)] at h1
 rw [add_field _ 2 (by omega)] at h2
 rw [add_field _ 3 (by omega)] at h3
 rw [add_field _ 4 (by omega)] at h4
 exact ⟨ad, e, hb, h0, h1, h2, h3, h4⟩
theorem SyL.on {w w' : World} {A : Option Addr} {n c : Nat} {l : List Sy} (h : SyL w A n c l) (hb : Below w.heap.size w w') : SyL w' A n c l := (Wd.below h hb).more hb.size
theorem SyL.few {w : World} {A : Option Addr} {n c : Nat} {l : List Sy} (h : SyL w A n c l) : n ≤ 9223372036854775807 := by
 have h1 := h.2.1
 have h2 := h.2.2.1
 unfold maxLen at h2; omega
def defn (l : List Sy) (s : Int) (k : Nat) : Nat := ((List.range k).filter fun j => decide ((syAt l j).2.2.1 = s ∧ (syAt l j).2.2.2.2 ≠ -1)).length
def mostO (nF nD : Nat) (s : Int) : Nat := if s = 1 then nF else nD
def keyO (nF : Nat) (i : Nat) : Int × Int := if i < nF then (1, (i : Int)) else (2, (i : Int) - (nF : Int))
def dfr (l : List Sy) (nF : Nat) (i : Nat) : Option Nat := (List.range l.length).find? fun k => decide ((syAt l k).2.2.1 = (keyO nF i).1 ∧ (syAt l k).2.2.2.2 = (keyO nF i).2)
def dfOk (l : List Sy) (nF nD : Nat) (k : Nat) : Prop :=
 ((syAt l k).2.2.1 = 1 ∨ (syAt l k).2.2.1 = 2) ∧ ((syAt l k).2.2.2.2 = -1 ∨ ((syAt l k).2.2.2.2 = (defn l (syAt l k).2.2.1 k : Int) ∧ (syAt l k).2.2.2.2 < (mostO nF nD (syAt l k).2.2.1 : Int)))
theorem defn_succ (l : List Sy) (s : Int) (k : Nat) : defn l s (k + 1) = defn l s k + (if (syAt l k).2.2.1 = s ∧ (syAt l k).2.2.2.2 ≠ -1 then 1 else 0) := by
 unfold defn
 rw [List.range_succ, List.filter_append, List.length_append]
 congr 1
 by_cases h : (syAt l k).2.2.1 = s ∧ (syAt l k).2.2.2.2 ≠ -1
 ·simp [h]
 ·rw [if_neg h]; simp only [List.filter_cons, List.filter_nil]; rw [if_neg (by simpa using h)]; rfl
theorem dfr_some {l : List Sy} {nF i k : Nat} (h : dfr l nF i = some k) : k < l.length ∧ (syAt l k).2.2.1 = (keyO nF i).1 ∧ (syAt l k).2.2.2.2 = (keyO nF i).2 := by
 unfold dfr at h
 have h1 := List.mem_of_find?_eq_some h
 have h2 := List.find?_some h
 simp at h2
 exact ⟨List.mem_range.1 h1, h2⟩
abbrev Sl3 := Option Addr × Nat × Nat
def slV (x : Sl3) : Value := .slice x.1 x.2.1 x.2.2
structure Fc where
 cl : Int
 kinds : Sl3
 pad : Int
 no : Bool
 f : Int
 t : Int
 lines : Sl3
 code : Sl3
 rel : Sl3
def encFc (x : Fc) : List Value := [.int .i64 x.cl, slV x.kinds, .int .i64 x.pad, .bool x.no, .int .i64 x.f, .int .i64 x.t, slV x.lines, slV x.code, slV x.rel]
structure Dc where
 kd : Int
 words : Sl3
 rel : Sl3
def encDc (x : Dc) : List Value := [.int .i64 x.kd, slV x.words, slV x.rel]
def fc0 : Fc := ⟨0, (none, 0, 0), 0, false, 0, 0, (none, 0, 0), (none, 0, 0), (none, 0, 0)⟩
def dc0 : Dc := ⟨0, (none, 0, 0), (none, 0, 0)⟩
def fcAt (l : List Fc) (i : Nat) : Fc := l.getD i fc0
def dcAt (l : List Dc) (i : Nat) : Dc := l.getD i dc0
theorem fcAt_some {l : List Fc} {i : Nat} (h : i < l.length) : l[i]? = some (fcAt l i) := by unfold fcAt; rw [List.getD_eq_getElem?_getD, List.getElem?_eq_getElem h]; rfl
theorem dcAt_some {l : List Dc} {i : Nat} (h : i < l.length) : l[i]? = some (dcAt l i) := by unfold dcAt; rw [List.getD_eq_getElem?_getD, List.getElem?_eq_getElem h]; rfl
structure Oj where
 A : Option Addr
 n : Nat
 c : Nat
 l : List Sy
 fA : Option Addr
 fn : Nat
 fc : Nat
 fl : List Fc
 dA : Option Addr
 dn : Nat
 dc : Nat
 dl : List Dc
def ojV (o : Oj) : Value := .agg #[.slice o.A o.n o.c, .slice o.fA o.fn o.fc, .slice o.dA o.dn o.dc]
structure OjL (w : World) (o : Oj) : Prop where
 sy : SyL w o.A o.n o.c o.l
 fs : Wd 9 encFc w w.heap.size o.fA o.fn o.fc o.fl
 ds : Wd 3 encDc w w.heap.size o.dA o.dn o.dc o.dl
theorem OjL.on {w w' : World} {o : Oj} (h : OjL w o) (hb : Below w.heap.size w w') : OjL w' o := ⟨h.sy.on hb, (h.fs.below hb).more hb.size, (h.ds.below hb).more hb.size⟩
theorem fc_at {w : World} {B : Nat} {A : Option Addr} {n c : Nat} {l : List Fc} (h : Wd 9 encFc w B A n c l) {i : Nat} (hi : i < n) :
  ∃ ad, A = some ad ∧ ad.block < B ∧ w.cell? (ad.add (i * 9)) = some (.int .i64 (fcAt l i).cl) ∧ w.cell? ⟨(ad.add (i * 9)).block, (ad.add (i * 9)).off + 1, none⟩ = some (slV (fcAt l i).kinds) ∧ w.cell? ⟨(ad.add (i * 9)).block, (ad.add (i * 9)).off + 2, none⟩ = some (.int .i64 (fcAt l i).pad) ∧ w.cell? ⟨(ad.add (i * 9)).block, (ad.add (i * 9)).off + 3, none⟩ = some (.bool (fcAt l i).no) ∧ w.cell? ⟨(ad.add (i * 9)).block, (ad.add (i * 9)).off + 4, none⟩ = some (.int .i64 (fcAt l i).f) ∧ w.cell? ⟨(ad.add (i * 9)).block, (ad.add (i * 9)).off + 5, none⟩ = some (.int .i64 (fcAt l i).t) ∧
  w.cell? ⟨(ad.add (i * 9)).block, (ad.add (i * 9)).off + 6, none⟩ = some (slV (fcAt l i).lines) ∧ w.cell? ⟨(ad.add (i * 9)).block, (ad.add (i * 9)).off + 7, none⟩ = some (slV (fcAt l i).code) ∧ w.cell? ⟨(ad.add (i * 9)).block, (ad.add (i * 9)).off + 8, none⟩ = some (slV (fcAt l i).rel) := by
 obtain ⟨ad, e, hb, hc⟩ := h.2.2.2.2 i _ (fcAt_some (by rw [h.1]; exact hi))
 have f : ∀ j, 0 < j → (ad.add (i * 9)).add j = ⟨(ad.add (i * 9)).block, (ad.add (i * 9)).off + j, none⟩ := fun j hj => add_field _ j hj
 refine ⟨ad, e, hb, hc 0 _ rfl, ?_, ?_, ?_, ?_, ?_, ?_, ?_, ?_⟩
 ·rw [← f 1 (by omega)]; exact hc 1 _ rfl
 ·rw [← f 2 (by omega)]; exact hc 2 _ rfl
 ·rw [← f 3 (by omega)]; exact hc 3 _ rfl
 ·rw [← f 4 (by omega)]; exact hc 4 _ rfl
 ·rw [← f 5 (by omega)]; exact hc 5 _ rfl
 ·rw [← f 6 (by omega)]; exact hc 6 _ rfl
 ·rw [← f 7 (by omega)]; exact hc 7 _ rfl
 ·rw [← f 8 (by omega)]; exact hc 8 _ rfl
theorem dc_at {w : World} {B : Nat} {A : Option Addr} {n c : Nat} {l : List Dc} (h : Wd 3 encDc w B A n c l) {i : Nat} (hi : i < n) :
  ∃ ad, A = some ad ∧ ad.block < B ∧ w.cell? (ad.add (i * 3)) = some (.int .i64 (dcAt l i).kd) ∧ w.cell? ⟨(ad.add (i * 3)).block, (ad.add (i * 3)).off + 1, none⟩ = some (slV (dcAt l i).words) ∧ w.cell? ⟨(ad.add (i * 3)).block, (ad.add (i * 3)).off + 2, none⟩ = some (slV (dcAt l i).rel) := by
 obtain ⟨ad, e, hb, hc⟩ := h.2.2.2.2 i _ (dcAt_some (by rw [h.1]; exact hi))
 have f : ∀ j, 0 < j → (ad.add (i * 3)).add j = ⟨(ad.add (i * 3)).block, (ad.add (i * 3)).off + j, none⟩ := fun j hj => add_field _ j hj
 refine ⟨ad, e, hb, hc 0 _ rfl, ?_, ?_⟩
 ·rw [← f 1 (by omega)]; exact hc 1 _ rfl
 ·rw [← f 2 (by omega)]; exact hc 2 _ rfl
section
variable {w w' : World} {o : Oj} {ne : ByteArray → Int} {ks kt : Int → Bool} {vf rf de : Nat → Int}
end
def tooMany (o : Oj) : Bool := decide (32 < o.n) || decide (12 < o.fn) || decide (8 < o.dn)
def syV (x : Sy) : Value := .agg #[.string x.1, .bool x.2.1, .int .i64 x.2.2.1, .int .i64 x.2.2.2.1, .int .i64 x.2.2.2.2]
def ixV (o : Option Nat) : Int := match o with | some k => (k : Int) | none => -1
theorem find_at {f : Nat → Bool} {n j : Nat} (hj : j < n) (h1 : ∀ k, k < j → f k = false) (h2 : f j = true) : (List.range n).find? f = some j := by
 obtain ⟨d, rfl⟩ := Nat.le.dest (show j + 1 ≤ n by omega)
 rw [List.range_add, List.find?_append, List.range_succ, List.find?_append]
 have : (List.range j).find? f = none := List.find?_eq_none.2 fun y hy => by rw [h1 y (List.mem_range.1 hy)]; simp
 rw [this]
 simp [h2]
theorem find_no {f : Nat → Bool} {n : Nat} (h1 : ∀ k, k < n → f k = false) : (List.range n).find? f = none := List.find?_eq_none.2 fun y hy => by rw [h1 y (List.mem_range.1 hy)]; simp
section
variable {w : World} {o : Oj} {ne : ByteArray → Int} {ks kt : Int → Bool} {vf rf de : Nat → Int}
def locE (y : Sy) : Int := if y.2.1 = true ∧ y.2.2.2.2 = -1 then 13 else 0
def kindE (ks kt : Int → Bool) (y : Sy) : Int := if (y.2.2.1 = 1 ∧ ks y.2.2.2.1 = true) ∨ (y.2.2.1 = 2 ∧ kt y.2.2.2.1 = true) then 0 else 8
end
theorem cell_on {W w3 : World} {p : Addr} {v : Value} (h : W.cell? p = some v) (b : Below W.heap.size W w3) : w3.cell? p = some v := (b.cell (World.block_lt_of_cell? W _ h)).trans h
theorem on2Z {W V : World} {p0 p1 : Addr} {x0 x1 : Value} (h : W.cell? p0 = some x0 ∧ W.cell? p1 = some x1) (u : Below W.heap.size W V) : V.cell? p0 = some x0 ∧ V.cell? p1 = some x1 := ⟨cell_on (h.1) u, cell_on (h.2) u⟩
theorem on3Z {W V : World} {p0 p1 p2 : Addr} {x0 x1 x2 : Value} (h : W.cell? p0 = some x0 ∧ W.cell? p1 = some x1 ∧ W.cell? p2 = some x2) (u : Below W.heap.size W V) : V.cell? p0 = some x0 ∧ V.cell? p1 = some x1 ∧ V.cell? p2 = some x2 := ⟨cell_on (h.1) u, cell_on (h.2.1) u, cell_on (h.2.2) u⟩
theorem on4Z {W V : World} {p0 p1 p2 p3 : Addr} {x0 x1 x2 x3 : Value} (h : W.cell? p0 = some x0 ∧ W.cell? p1 = some x1 ∧ W.cell? p2 = some x2 ∧ W.cell? p3 = some x3) (u : Below W.heap.size W V) : V.cell? p0 = some x0 ∧ V.cell? p1 = some x1 ∧ V.cell? p2 = some x2 ∧ V.cell? p3 = some x3 := ⟨cell_on (h.1) u, cell_on (h.2.1) u, cell_on (h.2.2.1) u, cell_on (h.2.2.2) u⟩
theorem on5Z {W V : World} {p0 p1 p2 p3 p4 : Addr} {x0 x1 x2 x3 x4 : Value} (h : W.cell? p0 = some x0 ∧ W.cell? p1 = some x1 ∧ W.cell? p2 = some x2 ∧ W.cell? p3 = some x3 ∧ W.cell? p4 = some x4) (u : Below W.heap.size W V) : V.cell? p0 = some x0 ∧ V.cell? p1 = some x1 ∧ V.cell? p2 = some x2 ∧ V.cell? p3 = some x3 ∧ V.cell? p4 = some x4 := ⟨cell_on (h.1) u, cell_on (h.2.1) u, cell_on (h.2.2.1) u, cell_on (h.2.2.2.1) u, cell_on (h.2.2.2.2) u⟩
theorem on6Z {W V : World} {p0 p1 p2 p3 p4 p5 : Addr} {x0 x1 x2 x3 x4 x5 : Value} (h : W.cell? p0 = some x0 ∧ W.cell? p1 = some x1 ∧ W.cell? p2 = some x2 ∧ W.cell? p3 = some x3 ∧ W.cell? p4 = some x4 ∧ W.cell? p5 = some x5) (u : Below W.heap.size W V) : V.cell? p0 = some x0 ∧ V.cell? p1 = some x1 ∧ V.cell? p2 = some x2 ∧ V.cell? p3 = some x3 ∧ V.cell? p4 = some x4 ∧ V.cell? p5 = some x5 := ⟨cell_on (h.1) u, cell_on (h.2.1) u, cell_on (h.2.2.1) u, cell_on (h.2.2.2.1) u, cell_on (h.2.2.2.2.1) u, cell_on (h.2.2.2.2.2) u⟩
theorem on7Z {W V : World} {p0 p1 p2 p3 p4 p5 p6 : Addr} {x0 x1 x2 x3 x4 x5 x6 : Value} (h : W.cell? p0 = some x0 ∧ W.cell? p1 = some x1 ∧ W.cell? p2 = some x2 ∧ W.cell? p3 = some x3 ∧ W.cell? p4 = some x4 ∧ W.cell? p5 = some x5 ∧ W.cell? p6 = some x6) (u : Below W.heap.size W V) : V.cell? p0 = some x0 ∧ V.cell? p1 = some x1 ∧ V.cell? p2 = some x2 ∧ V.cell? p3 = some x3 ∧ V.cell? p4 = some x4 ∧ V.cell? p5 = some x5 ∧ V.cell? p6 = some x6 := ⟨cell_on (h.1) u, cell_on (h.2.1) u, cell_on (h.2.2.1) u, cell_on (h.2.2.2.1) u, cell_on (h.2.2.2.2.1) u, cell_on (h.2.2.2.2.2.1) u, cell_on (h.2.2.2.2.2.2) u⟩
theorem on8Z {W V : World} {p0 p1 p2 p3 p4 p5 p6 p7 : Addr} {x0 x1 x2 x3 x4 x5 x6 x7 : Value} (h : W.cell? p0 = some x0 ∧ W.cell? p1 = some x1 ∧ W.cell? p2 = some x2 ∧ W.cell? p3 = some x3 ∧ W.cell? p4 = some x4 ∧ W.cell? p5 = some x5 ∧ W.cell? p6 = some x6 ∧ W.cell? p7 = some x7) (u : Below W.heap.size W V) : V.cell? p0 = some x0 ∧ V.cell? p1 = some x1 ∧ V.cell? p2 = some x2 ∧ V.cell? p3 = some x3 ∧ V.cell? p4 = some x4 ∧ V.cell? p5 = some x5 ∧ V.cell? p6 = some x6 ∧ V.cell? p7 = some x7 := ⟨cell_on (h.1) u, cell_on (h.2.1) u, cell_on (h.2.2.1) u, cell_on (h.2.2.2.1) u, cell_on (h.2.2.2.2.1) u, cell_on (h.2.2.2.2.2.1) u, cell_on (h.2.2.2.2.2.2.1) u, cell_on (h.2.2.2.2.2.2.2) u⟩
theorem on9Z {W V : World} {p0 p1 p2 p3 p4 p5 p6 p7 p8 : Addr} {x0 x1 x2 x3 x4 x5 x6 x7 x8 : Value} (h : W.cell? p0 = some x0 ∧ W.cell? p1 = some x1 ∧ W.cell? p2 = some x2 ∧ W.cell? p3 = some x3 ∧ W.cell? p4 = some x4 ∧ W.cell? p5 = some x5 ∧ W.cell? p6 = some x6 ∧ W.cell? p7 = some x7 ∧ W.cell? p8 = some x8) (u : Below W.heap.size W V) : V.cell? p0 = some x0 ∧ V.cell? p1 = some x1 ∧ V.cell? p2 = some x2 ∧ V.cell? p3 = some x3 ∧ V.cell? p4 = some x4 ∧ V.cell? p5 = some x5 ∧ V.cell? p6 = some x6 ∧ V.cell? p7 = some x7 ∧ V.cell? p8 = some x8 := ⟨cell_on (h.1) u, cell_on (h.2.1) u, cell_on (h.2.2.1) u, cell_on (h.2.2.2.1) u, cell_on (h.2.2.2.2.1) u, cell_on (h.2.2.2.2.2.1) u, cell_on (h.2.2.2.2.2.2.1) u, cell_on (h.2.2.2.2.2.2.2.1) u, cell_on (h.2.2.2.2.2.2.2.2) u⟩
theorem on10Z {W V : World} {p0 p1 p2 p3 p4 p5 p6 p7 p8 p9 : Addr} {x0 x1 x2 x3 x4 x5 x6 x7 x8 x9 : Value} (h : W.cell? p0 = some x0 ∧ W.cell? p1 = some x1 ∧ W.cell? p2 = some x2 ∧ W.cell? p3 = some x3 ∧ W.cell? p4 = some x4 ∧ W.cell? p5 = some x5 ∧ W.cell? p6 = some x6 ∧ W.cell? p7 = some x7 ∧ W.cell? p8 = some x8 ∧ W.cell? p9 = some x9) (u : Below W.heap.size W V) : V.cell? p0 = some x0 ∧ V.cell? p1 = some x1 ∧ V.cell? p2 = some x2 ∧ V.cell? p3 = some x3 ∧ V.cell? p4 = some x4 ∧ V.cell? p5 = some x5 ∧ V.cell? p6 = some x6 ∧ V.cell? p7 = some x7 ∧ V.cell? p8 = some x8 ∧ V.cell? p9 = some x9 := ⟨cell_on (h.1) u, cell_on (h.2.1) u, cell_on (h.2.2.1) u, cell_on (h.2.2.2.1) u, cell_on (h.2.2.2.2.1) u, cell_on (h.2.2.2.2.2.1) u, cell_on (h.2.2.2.2.2.2.1) u, cell_on (h.2.2.2.2.2.2.2.1) u, cell_on (h.2.2.2.2.2.2.2.2.1) u, cell_on (h.2.2.2.2.2.2.2.2.2) u⟩
theorem on11Z {W V : World} {p0 p1 p2 p3 p4 p5 p6 p7 p8 p9 p10 : Addr} {x0 x1 x2 x3 x4 x5 x6 x7 x8 x9 x10 : Value} (h : W.cell? p0 = some x0 ∧ W.cell? p1 = some x1 ∧ W.cell? p2 = some x2 ∧ W.cell? p3 = some x3 ∧ W.cell? p4 = some x4 ∧ W.cell? p5 = some x5 ∧ W.cell? p6 = some x6 ∧ W.cell? p7 = some x7 ∧ W.cell? p8 = some x8 ∧ W.cell? p9 = some x9 ∧ W.cell? p10 = some x10) (u : Below W.heap.size W V) : V.cell? p0 = some x0 ∧ V.cell? p1 = some x1 ∧ V.cell? p2 = some x2 ∧ V.cell? p3 = some x3 ∧ V.cell? p4 = some x4 ∧ V.cell? p5 = some x5 ∧ V.cell? p6 = some x6 ∧ V.cell? p7 = some x7 ∧ V.cell? p8 = some x8 ∧ V.cell? p9 = some x9 ∧ V.cell? p10 = some x10 := ⟨cell_on (h.1) u, cell_on (h.2.1) u, cell_on (h.2.2.1) u, cell_on (h.2.2.2.1) u, cell_on (h.2.2.2.2.1) u, cell_on (h.2.2.2.2.2.1) u, cell_on (h.2.2.2.2.2.2.1) u, cell_on (h.2.2.2.2.2.2.2.1) u, cell_on (h.2.2.2.2.2.2.2.2.1) u, cell_on (h.2.2.2.2.2.2.2.2.2.1) u, cell_on (h.2.2.2.2.2.2.2.2.2.2) u⟩
theorem q3Z {W : World} {g : Nat} {t : TypeId} {x y z : Value} (h : Blk W g t #[x, y, z]) : W.cell? ⟨g, 0, none⟩ = some x ∧ W.cell? ⟨g, 1, none⟩ = some y ∧ W.cell? ⟨g, 2, none⟩ = some z := ⟨h.cell 0, h.cell 1, h.cell 2⟩
def knd (o : Oj) (i : Nat) : Int := if i < o.fn then (fcAt o.fl i).cl else (dcAt o.dl (i - o.fn)).kd
section
variable {w : World} {o : Oj} {ne : ByteArray → Int} {ks kt : Int → Bool} {vf rf de : Nat → Int}
def clsE (o : Oj) (i k : Nat) : Int := if (syAt o.l k).2.2.2.1 = knd o i then 0 else 14
end
def nmT (x : ByteArray) (y : Sy) : Bool := y.1.toList == x.toList
def newT (l : List Sy) (i : Nat) : Bool := ((List.range i).find? fun k => nmT (syAt l i).1 (syAt l k)).isSome
section
variable {w : World} {o : Oj} {ne : ByteArray → Int} {ks kt : Int → Bool} {vf rf de : Nat → Int}
end
def defE (o : Oj) (i : Nat) : Int := if (syAt o.l i).2.2.2.2 = -1 then 0 else if (syAt o.l i).2.2.2.2 = (defn o.l (syAt o.l i).2.2.1 i : Int) ∧ (syAt o.l i).2.2.2.2 < (mostO o.fn o.dn (syAt o.l i).2.2.1 : Int) then 0 else 9
section
variable {w : World} {o : Oj} {ne : ByteArray → Int} {ks kt : Int → Bool} {vf rf de : Nat → Int}
end
def conE (o : Oj) (vf rf de : Nat → Int) (i : Nat) : Int := if i < o.fn then (if vf i = 0 then rf i else vf i) else de (i - o.fn)
section
variable {w : World} {o : Oj} {ne : ByteArray → Int} {ks kt : Int → Bool} {vf rf de : Nat → Int}
end
def fstE (E : Nat → Int) (k : Nat) : Int := match (List.range k).find? (fun m => E m != 0) with | some j => E j | none => 0
def e5 (o : Oj) (ne : ByteArray → Int) (ks kt : Int → Bool) (i : Nat) : Nat → Int
 | 0 => ne (syAt o.l i).1
 | 1 => kindE ks kt (syAt o.l i)
 | 2 => if newT o.l i = true then 12 else 0
 | 3 => defE o i
 | _ => locE (syAt o.l i)
def e3 (o : Oj) (vf rf de : Nat → Int) (i : Nat) : Nat → Int
 | 0 => if dfr o.l o.fn i = none then 13 else 0
 | 1 => match dfr o.l o.fn i with | some k => clsE o i k | none => 0
 | _ => conE o vf rf de i
def symE (o : Oj) (ne : ByteArray → Int) (ks kt : Int → Bool) (i : Nat) : Int := fstE (e5 o ne ks kt i) 5
def itmE (o : Oj) (vf rf de : Nat → Int) (i : Nat) : Int := fstE (e3 o vf rf de i) 3
section
variable {w : World} {o : Oj} {ne : ByteArray → Int} {ks kt : Int → Bool} {vf rf de : Nat → Int}
end
def frsI (E : Nat → Int) (n : Nat) : Option Nat := (List.range n).find? fun m => E m != 0
def chkO (tm : Bool) (n it : Nat) (sE iE : Nat → Int) : Int × Int :=
 if tm = true then (19, -1) else match frsI sE n with | some k => (sE k, (k : Int)) | none => match frsI iE it with | some k => (iE k, (k : Int)) | none => (0, -1)
theorem chk_sym {n it : Nat} {sE iE : Nat → Int} {i : Nat} (hi : i < n) (h1 : ∀ m, m < i → (sE m != 0) = false) (h2 : (sE i != 0) = true) : chkO false n it sE iE = (sE i, (i : Int)) := by
 unfold chkO frsI
 rw [if_neg (by simp), find_at hi h1 h2]
theorem chk_itm {n it : Nat} {sE iE : Nat → Int} {i : Nat} (h0 : ∀ m, m < n → (sE m != 0) = false) (hi : i < it) (h1 : ∀ m, m < i → (iE m != 0) = false) (h2 : (iE i != 0) = true) : chkO false n it sE iE = (iE i, (i : Int)) := by
 unfold chkO frsI
 rw [if_neg (by simp), find_no h0]
 dsimp only
 rw [find_at hi h1 h2]
theorem chk_ok {n it : Nat} {sE iE : Nat → Int} (h0 : ∀ m, m < n → (sE m != 0) = false) (h1 : ∀ m, m < it → (iE m != 0) = false) : chkO false n it sE iE = (0, -1) := by
 unfold chkO frsI
 rw [if_neg (by simp), find_no h0]
 dsimp only
 rw [find_no h1]
section
variable {w : World} {o : Oj} {ne : ByteArray → Int} {ks kt : Int → Bool} {vf rf de : Nat → Int}
end
theorem frs_zero {E : Nat → Int} {n : Nat} (h : ∀ k, frsI E n = some k → E k = 0) : ∀ k, k < n → E k = 0 := by
 intro k hk
 by_cases h0 : E k = 0
 ·exact h0
 ·exfalso
  cases hf : frsI E n with
  | none =>
   have := List.find?_eq_none.1 hf k (List.mem_range.2 hk)
   simp [h0] at this
  | some y =>
   have h1 := List.find?_some hf
   rw [h y hf] at h1
   simp at h1
theorem chk_zero {tm : Bool} {n it : Nat} {sE iE : Nat → Int} (h : (chkO tm n it sE iE).1 = 0) : tm = false ∧ (∀ k, k < n → sE k = 0) ∧ ∀ i, i < it → iE i = 0 := by
 unfold chkO at h
 cases tm with
 | true => rw [if_pos rfl] at h; exact absurd h (by decide)
 | false =>
  rw [if_neg (by simp)] at h
  cases hs : frsI sE n with
  | some k =>
   rw [hs] at h
   have h1 := List.find?_some hs
   dsimp only at h
   rw [h] at h1
   simp at h1
  | none =>
   rw [hs] at h
   cases hi : frsI iE it with
   | some k =>
    rw [hi] at h
    have h1 := List.find?_some hi
    dsimp only at h
    rw [h] at h1
    simp at h1
   | none =>
    exact ⟨rfl, frs_zero fun k hk => by rw [hs] at hk; exact absurd hk (by simp), frs_zero fun k hk => by rw [hi] at hk; exact absurd hk (by simp)⟩
theorem fst_zero {E : Nat → Int} {k : Nat} (h : fstE E k = 0) : ∀ m, m < k → E m = 0 := by
 refine frs_zero fun y hy => ?_
 unfold fstE at h
 unfold frsI at hy
 rw [hy] at h
 exact h
theorem fewO {o : Oj} (h : tooMany o = false) : o.n ≤ 32 ∧ o.fn ≤ 12 ∧ o.dn ≤ 8 := by
 unfold tooMany at h
 rw [Bool.or_eq_false_iff, Bool.or_eq_false_iff] at h
 obtain ⟨⟨h1, h2⟩, h3⟩ := h
 have h1 := of_decide_eq_false h1
 have h2 := of_decide_eq_false h2
 have h3 := of_decide_eq_false h3
 omega
theorem right_all {o : Oj} {ne : ByteArray → Int} {ks kt : Int → Bool} {vf rf de : Nat → Int} (hl : o.l.length = o.n)
  (h : (chkO (tooMany o) o.n (o.fn + o.dn) (symE o ne ks kt) (itmE o vf rf de)).1 = 0) :
  (∀ k, k < o.l.length → dfOk o.l o.fn o.dn k) ∧ ∀ i, i < o.fn + o.dn → ∃ k, dfr o.l o.fn i = some k := by
 obtain ⟨_, hs, hi⟩ := chk_zero h
 refine ⟨fun k hk => ?_, fun i hi' => ?_⟩
 ·have h5 := fst_zero (hs k (by omega))
  have hk1 : kindE ks kt (syAt o.l k) = 0 := h5 1 (by omega)
  have hd : defE o k = 0 := h5 3 (by omega)
  unfold kindE at hk1
  unfold defE at hd
  unfold dfOk
  constructor
  ·by_cases hq : ((syAt o.l k).2.2.1 = 1 ∧ ks (syAt o.l k).2.2.2.1 = true) ∨ ((syAt o.l k).2.2.1 = 2 ∧ kt (syAt o.l k).2.2.2.1 = true)
   ·exact hq.elim (fun x => Or.inl x.1) (fun x => Or.inr x.1)
   ·rw [if_neg hq] at hk1
    exact absurd hk1 (by decide)
  ·by_cases h1 : (syAt o.l k).2.2.2.2 = -1
   ·exact Or.inl h1
   ·rw [if_neg h1] at hd
    by_cases h2 : (syAt o.l k).2.2.2.2 = (defn o.l (syAt o.l k).2.2.1 k : Int) ∧ (syAt o.l k).2.2.2.2 < (mostO o.fn o.dn (syAt o.l k).2.2.1 : Int)
    ·exact Or.inr h2
    ·rw [if_neg h2] at hd
     exact absurd hd (by decide)
 ·have h3 : (if dfr o.l o.fn i = none then (13 : Int) else 0) = 0 := fst_zero (hi i hi') 0 (by omega)
  by_cases hn : dfr o.l o.fn i = none
  ·rw [if_pos hn] at h3
   exact absurd h3 (by decide)
  ·exact Option.ne_none_iff_exists'.1 hn
structure Dx (w : World) (o : Oj) (ne : ByteArray → Int) (ks kt : Int → Bool) (vf rf de : Nat → Int) : Prop where
 mem : OjL w o
 few : o.n ≤ 1000 ∧ o.fn ≤ 1000 ∧ o.dn ≤ 1000
 name : ∀ W, Below w.heap.size w W → ∀ k, k < o.n → Calls Tryz.prog 116 #[.string (syAt o.l k).1] W fun e w' => e = .returned (.int .i64 (ne (syAt o.l k).1)) ∧ Below W.heap.size W w'
 is : ∀ W, Below w.heap.size w W → ∀ x, Calls Tryz.prog 117 #[.int .i64 x] W fun e w' => e = .returned (.bool (ks x)) ∧ Below W.heap.size W w'
 text : ∀ W, Below w.heap.size w W → ∀ k, k < o.n → Calls Tryz.prog 118 #[.int .i64 (syAt o.l k).2.2.2.1] W fun e w' => (∃ t, e = .returned (.string t) ∧ (ByteArray.toList t).isEmpty = !kt (syAt o.l k).2.2.2.1) ∧ Below W.heap.size W w'
 fn : ∀ W, Below w.heap.size w W → ∀ j, j < o.fn → Calls Tryz.prog 121 #[.agg (encFc (fcAt o.fl j)).toArray, .slice o.A o.n o.c] W fun e w' => (∃ x, e = .returned (.tuple #[.int .i64 (vf j), .int .i64 x])) ∧ Below W.heap.size W w'
 rng : ∀ W, Below w.heap.size w W → ∀ j, j < o.fn → Calls Tryz.prog 122 #[.agg (encFc (fcAt o.fl j)).toArray] W fun e w' => e = .returned (.int .i64 (rf j)) ∧ Below W.heap.size W w'
 dat : ∀ W, Below w.heap.size w W → ∀ j, j < o.dn → Calls Tryz.prog 120 #[.agg (encDc (dcAt o.dl j)).toArray, .slice o.A o.n o.c] W fun e w' => e = .returned (.int .i64 (de j)) ∧ Below W.heap.size W w'
section
variable {w w' : World} {o : Oj} {ne : ByteArray → Int} {ks kt : Int → Bool} {vf rf de : Nat → Int}
theorem Dx.on (h : Dx w o ne ks kt vf rf de) (hb : Below w.heap.size w w') : Dx w' o ne ks kt vf rf de where
 mem := h.mem.on hb
 few := h.few
 name := fun W hW => h.name W (hb.trans (hW.mono hb.size))
 is := fun W hW => h.is W (hb.trans (hW.mono hb.size))
 text := fun W hW => h.text W (hb.trans (hW.mono hb.size))
 fn := fun W hW => h.fn W (hb.trans (hW.mono hb.size))
 rng := fun W hW => h.rng W (hb.trans (hW.mono hb.size))
 dat := fun W hW => h.dat W (hb.trans (hW.mono hb.size))
end
theorem bx3 {w w2 : World} {t : TypeId} {a b c : Value} (hb : Below (w.alloc (.cells #[a, b, c] t)).heap.size (w.alloc (.cells #[a, b, c] t)) w2) :
  Below w.heap.size w w2 ∧ w2.cell? ⟨w.heap.size, 0, none⟩ = some a ∧ w2.cell? ⟨w.heap.size, 1, none⟩ = some b ∧ w2.cell? ⟨w.heap.size, 2, none⟩ = some c := by
 have hk := (Blk.new w t #[a, b, c]).below hb (by simp)
 exact ⟨to_ (alloc_ w _) hb, hk.cell 0, hk.cell 1, hk.cell 2⟩
theorem bx35 {w w2 : World} {t u : TypeId} {a b c p q r s v : Value} (hb : Below ((w.alloc (.cells #[a, b, c] t)).alloc (.cells #[p, q, r, s, v] u)).heap.size ((w.alloc (.cells #[a, b, c] t)).alloc (.cells #[p, q, r, s, v] u)) w2) :
  Below w.heap.size w w2 ∧ w2.cell? ⟨w.heap.size, 0, none⟩ = some a ∧ w2.cell? ⟨w.heap.size, 1, none⟩ = some b ∧ w2.cell? ⟨w.heap.size, 2, none⟩ = some c ∧ w2.cell? ⟨w.heap.size + 1, 0, none⟩ = some p ∧ w2.cell? ⟨w.heap.size + 1, 1, none⟩ = some q ∧ w2.cell? ⟨w.heap.size + 1, 2, none⟩ = some r ∧ w2.cell? ⟨w.heap.size + 1, 3, none⟩ = some s ∧ w2.cell? ⟨w.heap.size + 1, 4, none⟩ = some v := by
 have hk := (((Blk.new w t #[a, b, c]).alloc (.cells #[p, q, r, s, v] u))).below hb (by simp; omega)
 have hk2 := Blk.new (w.alloc (.cells #[a, b, c] t)) u #[p, q, r, s, v]
 rw [World.size_alloc] at hk2
 have hk2 := hk2.below hb (by simp)
 exact ⟨to_ (to_ (alloc_ w _) (alloc_ _ _)) hb, hk.cell 0, hk.cell 1, hk.cell 2, hk2.cell 0, hk2.cell 1, hk2.cell 2, hk2.cell 3, hk2.cell 4⟩
theorem ditems (o : Oj) (w : World) (hf : o.fn ≤ 1000 ∧ o.dn ≤ 1000) : Calls Tryz.prog 73 #[ojV o] w fun e w' => e = .returned (.int .i64 ((o.fn + o.dn : Nat) : Int)) ∧ Below w.heap.size w w' := by
 obtain ⟨A, n, c, l, fA, fn, fc, fl, dA, dn, dc, dl⟩ := o
 unfold ojV
 dsimp only at hf ⊢
 have hs : ((fn + dn : Nat) : Int) = (fn : Int) + (dn : Int) := by omega
 rw [hs]
 go_enter Tryz.func73, Tryz.ntmps73
 go_wp2_with fail
 go_ret
 exact ⟨by go_num, (Below.refl _ _).alloc (Nat.le_refl _) _⟩
def dfT (k : Int × Int) (y : Sy) : Bool := decide (y.2.2.1 = k.1 ∧ y.2.2.2.2 = k.2)
set_option maxRecDepth 100000 in
set_option maxHeartbeats 2000000 in
theorem ddefines (o : Oj) (y : Sy) (i : Nat) (hf : o.fn ≤ 1000 ∧ o.dn ≤ 1000) (hi : i < o.fn + o.dn) (w : World) :
  Calls Tryz.prog 156 #[ojV o, syV y, .int .i64 (i : Int)] w fun e w' => e = .returned (.bool (dfT (keyO o.fn i) y)) ∧ Below w.heap.size w w' := by
 have HI := Hd (fun W => ditems o W hf)
 obtain ⟨A, n, c, l, fA, fn, fc, fl, dA, dn, dc, dl⟩ := o
 obtain ⟨y0, y1, y2, y3, y4⟩ := y
 unfold ojV at HI ⊢
 unfold syV dfT keyO
 dsimp only at HI hf hi ⊢
 have hi0 : ¬ (i : Int) < 0 := by omega
 have hi1 : ¬ ((fn + dn : Nat) : Int) ≤ (i : Int) := by omega
 by_cases hlt : i < fn
 focus
  have hl1 : (i : Int) < (fn : Int) := by omega
  rw [if_pos hlt]
  dsimp only
  by_cases h1 : y2 = 1
  focus
   by_cases h2 : y4 = (i : Int)
   focus
    rw [decide_eq_true ⟨h1, h2⟩]
    have e1 : (y2 == 1) = true := by simp [h1]
    have e2 : (y4 == (i : Int)) = true := by simp [h2]
   rotate_left
   focus
    rw [decide_eq_false (fun x => h2 x.2)]
    have e1 : (y2 == 1) = true := by simp [h1]
    have e2 : (y4 == (i : Int)) = false := by simp [h2]
   rotate_left
   all_goals
    clear h1 h2
  rotate_left 2
  focus
   rw [decide_eq_false (fun x => h1 x.1)]
   have e1 : (y2 == 1) = false := by simp [h1]
   clear h1
  rotate_left
 rotate_left 3
 focus
  have hl1 : ¬ (i : Int) < (fn : Int) := by omega
  rw [if_neg hlt]
  dsimp only
  have hsub : IntKind.i64.wrap ((i : Int) - (fn : Int)) = (i : Int) - (fn : Int) := by
   have a1 : -9223372036854775808 ≤ (i : Int) - (fn : Int) := by omega
   have a2 : (i : Int) - (fn : Int) ≤ 9223372036854775807 := by omega
   exact IntWalk.i64_in _ ⟨a1, a2⟩
  by_cases h1 : y2 = 2
  focus
   by_cases h2 : y4 = (i : Int) - (fn : Int)
   focus
    rw [decide_eq_true ⟨h1, h2⟩]
    have e1 : (y2 == 2) = true := by simp [h1]
    have e2 : (y4 == (i : Int) - (fn : Int)) = true := by simp [h2]
   rotate_left
   focus
    rw [decide_eq_false (fun x => h2 x.2)]
    have e1 : (y2 == 2) = true := by simp [h1]
    have e2 : (y4 == (i : Int) - (fn : Int)) = false := by simp [h2]
   rotate_left
   all_goals
    clear h1 h2
  rotate_left 2
  focus
   rw [decide_eq_false (fun x => h1 x.1)]
   have e1 : (y2 == 2) = false := by simp [h1]
   clear h1
  rotate_left
 rotate_left 3
 all_goals
  go_enter Tryz.func156, Tryz.ntmps156
  go_wp2_with (go_at_call 73; refine (HI.out _).mono ?_; rintro e w2 ⟨rfl, b2⟩; obtain ⟨hb2, c0, c1, c2, s0, s1, s2, s3, s4⟩ := bx35 b2; have HB2 := Hd hb2; clear b2 hb2)
  go_ret
  exact ⟨rfl, HB2.out⟩
set_option maxRecDepth 100000 in
set_option maxHeartbeats 4000000 in
theorem ddefiner (w : World) (o : Oj) (h : OjL w o) (hf : o.n ≤ 1000 ∧ o.fn ≤ 1000 ∧ o.dn ≤ 1000) (i : Nat) (hi : i < o.fn + o.dn) :
  Calls Tryz.prog 119 #[ojV o, .int .i64 (i : Int)] w fun e w' => e = .returned (.int .i64 (ixV (dfr o.l o.fn i))) ∧ Below w.heap.size w w' := by
 have HD := Hd (fun y W => ddefines o y i hf.2 hi W)
 have HS := Hd (fun W (hb : Below w.heap.size w W) k (hk : k < o.n) => (h.sy.on hb).at_ hk)
 have hl : o.l.length = o.n := h.sy.1
 have HF := Hd (show ∀ k, k < o.n → (∀ m, m < k → dfT (keyO o.fn i) (syAt o.l m) = false) → dfT (keyO o.fn i) (syAt o.l k) = true → dfr o.l o.fn i = some k from fun k hk h1 h2 => find_at (by rw [hl]; exact hk) h1 h2)
 have HN := Hd (show (∀ m, m < o.n → dfT (keyO o.fn i) (syAt o.l m) = false) → dfr o.l o.fn i = none from fun h1 => find_no (fun m hm => h1 m (by rw [← hl]; exact hm)))
 clear h hl
 obtain ⟨A, n, c, l, fA, fn, fc, fl, dA, dn, dc, dl⟩ := o
 unfold ojV at HD ⊢
 dsimp only at HD HS HF HN hf hi ⊢
 generalize dfr l fn i = d at *
 generalize dfT (keyO fn i) = Tq at *
 obtain ⟨W0, hW0⟩ : ∃ W0, w.alloc (.cells #[.slice A n c, .slice fA fn fc, .slice dA dn dc] 71) = W0 := ⟨_, rfl⟩
 have HX := Hd (fun W (hb : Below W0.heap.size W0 W) => bx3 (w := w) (w2 := W) (by rw [hW0]; exact hb))
 go_enter Tryz.func119, Tryz.ntmps119
 go_wp2_with fail
 clear hW0
 go_loopw [5] (fun i9 wr => ∃ k : Nat, k ≤ n ∧ i9 = .int .i64 (k : Int) ∧ Hid (∀ m, m < k → Tq (syAt l m) = false) ∧ Hid (Below W0.heap.size W0 wr)) (fun i9 _ => n - (intOf i9).toNat)
 case atStart => exact ⟨0, Nat.zero_le _, rfl, Hd (fun m hm => by omega), Hd (Below.refl _ _)⟩
 case round =>
  obtain ⟨k, hk, rfl, HNO, HBE⟩ := hrel
  obtain ⟨hb9, c0, c1, c2⟩ := HX.out wr HBE.out
  by_cases hlt : k < n
  ·have hkI : (k : Int) < (n : Int) := by omega
   have hk0 : (0 : Int) ≤ (k : Int) := by omega
   obtain ⟨ad, rfl, _, s0, s1, s2, s3, s4⟩ := HS.out wr hb9 k hlt
   have HV := Hd (HF.out k hlt HNO.out)
   have HM := Hd (show Tq (syAt l k) = false → ∀ m, m < k + 1 → Tq (syAt l m) = false from fun e m hm => by
    rcases Nat.lt_succ_iff_lt_or_eq.1 hm with h | h
    ·exact HNO.out m h
    ·rw [h]; exact e)
   obtain ⟨⟨y0, y1, y2, y3, y4⟩, hy⟩ : ∃ y, syAt l k = y := ⟨_, rfl⟩
   rw [hy] at s0 s1 s2 s3 s4 HV HM
   dsimp only at s0 s1 s2 s3 s4
   have HD := Hd (fun W => HD.out (y0, y1, y2, y3, y4) W)
   unfold syV at HD
   dsimp only at HD
   clear hy hb9
   obtain ⟨b, hb⟩ : ∃ b, Tq (y0, y1, y2, y3, y4) = b := ⟨_, rfl⟩
   rw [hb] at HV HM HD
   clear hb
   go_wp2_with fail
   refine wp_region_noPanic ?_
   refine wp_region_held_drew (S := fun W => W.cell? ⟨w.heap.size, 0, none⟩ = some (.slice (some ad) n c) ∧ W.cell? ⟨w.heap.size, 1, none⟩ = some (.slice fA fn fc) ∧ W.cell? ⟨w.heap.size, 2, none⟩ = some (.slice dA dn dc) ∧ W.cell? (ad.add (k * 5)) = some (.string y0) ∧ W.cell? ⟨(ad.add (k * 5)).block, (ad.add (k * 5)).off + 1, none⟩ = some (.bool y1) ∧ W.cell? ⟨(ad.add (k * 5)).block, (ad.add (k * 5)).off + 2, none⟩ = some (.int .i64 y2) ∧ W.cell? ⟨(ad.add (k * 5)).block, (ad.add (k * 5)).off + 3, none⟩ = some (.int .i64 y3) ∧ W.cell? ⟨(ad.add (k * 5)).block, (ad.add (k * 5)).off + 4, none⟩ = some (.int .i64 y4) ∧ Below W0.heap.size W0 W) (by kernel_rfl) (⟨c0, c1, c2, s0, s1, s2, s3, s4, HBE.out.drew⟩) (fun hHeld => ?_)
   refine tk7Z 0 1 2 3 4 5 6 hHeld ?_
   refine rd1Z 7 (fun K hK => ?_)
   go_simp
   refine (HD.out _).mono ?_
   rintro e w3 ⟨rfl, b3⟩
   try go_wp2_with fail
   refine hK.out _ _ (⟨cell_on hHeld.1 b3, cell_on hHeld.2.1 b3, cell_on hHeld.2.2.1 b3, cell_on hHeld.2.2.2.1 b3, cell_on hHeld.2.2.2.2.1 b3, cell_on hHeld.2.2.2.2.2.1 b3, cell_on hHeld.2.2.2.2.2.2.1 b3, cell_on hHeld.2.2.2.2.2.2.2.1 b3, to_ hHeld.2.2.2.2.2.2.2.2 b3⟩) ?_
   clear hK K hHeld
   intro hHeld
   try simp only [Act.put, nmZ]
   refine wpAnyH_done (by kernel_rfl) ?_ _
   refine NoPanic.normal ?_
   cases b with
   | true =>
    have HR := Hd (HV.out rfl)
    go_wp2_with fail
    go_ret
    exact ⟨by rw [HR.out]; rfl, (HX.out _ hHeld.2.2.2.2.2.2.2.2).1⟩
   | false =>
    have HR := Hd (HM.out rfl)
    go_wp2_with fail
    go_roundw
    case rel => exact ⟨k + 1, by omega, by go_num, HR, Hd hHeld.2.2.2.2.2.2.2.2⟩
    case measure => simp [intOf]; omega
  ·obtain rfl : k = n := by omega
   have HR := Hd (HN.out HNO.out)
   go_wp2_with fail
   go_ret
   exact ⟨by rw [HR.out]; rfl, hb9⟩
end Go.Proofs.YtdaimeaofgbfpaaGreat.Bo
