/-
  A RANGE OVER A FUNCTION, of no program: an iterator tells a list that is known; what it keeps, and what a round keeps, are sets of blocks. So an iterator may keep state in cells of its own, and a round may write what lies ahead of the loop. A RANGE OVER A FUNCTION that reads what the rounds write, of no program: the iterator leans on what the caller holds. A RANGE OVER A FUNCTION whose list is not known ahead, of no program: the iterator has blocks of its own, all below a mark M that it sets before the first round; what the rounds lay lies from M on.
-/
import Derived.RangeFuncNested
import Derived.RangeFuncBound
import Derived.RangeFuncCalls
import Derived.RangeFuncLeaves
import Derived.Below
import Derived.Deep.Draws
namespace Go.Proofs.Ytbcabomblfehlab.Rf
open Go.RowKit

/-- Whatever lies in the blocks U lies as it lay; the streams too; no block has gone. -/
structure Keeps (U : Nat → Prop) (W W' : World) : Prop where
  os : W'.os = W.os
  tape : W'.tape = W.tape
  output : W'.output = W.output
  size : W.heap.size ≤ W'.heap.size
  block : ∀ k, U k → k < W.heap.size → W'.heap[k]? = W.heap[k]?

section
variable {U V : Nat → Prop} {A B C : World}
theorem Keeps.refl (U : Nat → Prop) (A : World) : Keeps U A A := ⟨rfl, rfl, rfl, Nat.le_refl _, fun _ _ _ => rfl⟩
theorem Keeps.trans (h : Keeps U A B) (k : Keeps U B C) : Keeps U A C :=
  ⟨k.os.trans h.os, k.tape.trans h.tape, k.output.trans h.output, Nat.le_trans h.size k.size, fun i hi hA => (k.block i hi (Nat.lt_of_lt_of_le hA h.size)).trans (h.block i hi hA)⟩
theorem Keeps.mono (h : Keeps U A B) (hV : ∀ k, V k → k < A.heap.size → U k) : Keeps V A B := ⟨h.os, h.tape, h.output, h.size, fun k hk hA => h.block k (hV k hk hA) hA⟩
theorem Keeps.of_below {n : Nat} (h : Below n A B) (hU : ∀ k, U k → k < A.heap.size → k < n) : Keeps U A B := ⟨h.os, h.tape, h.output, h.size, fun k hk hA => h.block k (hU k hk hA)⟩
theorem Keeps.below {n : Nat} (h : Keeps U A B) (hn : n ≤ A.heap.size) (hU : ∀ k, k < n → U k) : Below n A B := ⟨h.os, h.tape, h.output, h.size, fun k hk => h.block k (hU k hk) (by omega)⟩
theorem Keeps.drewN (h : Keeps U A B) (n : Nat) : Keeps U A (B.drewN n) := ⟨h.os, h.tape, h.output, h.size, h.block⟩
theorem Keeps.drew (h : Keeps U A B) : Keeps U A B.drew := ⟨h.os, h.tape, h.output, h.size, h.block⟩
theorem Keeps.alloc (h : Keeps U A B) (o : Obj) : Keeps U A (B.alloc o) :=
  h.trans ⟨rfl, rfl, rfl, by simp, fun k _ hk => Below.heap_alloc _ _ _ hk⟩
theorem Keeps.setCell (h : Keeps U A B) {p : Addr} (hp : ¬ U p.block) (u : Value) : Keeps U A (B.setCell p u) :=
  h.trans ⟨rfl, rfl, rfl, by simp [World.setCell], fun k hk _ => Below.heap_setCell _ _ _ _ (fun e => hp (e ▸ hk))⟩
theorem Keeps.putObj (h : Keeps U A B) {l : Nat} (hl : ¬ U l) (o : Obj) : Keeps U A (B.putObj l o) :=
  h.trans ⟨rfl, rfl, rfl, by simp, fun k hk _ => World.putObj_heap_other (fun e => hl (e ▸ hk))⟩
theorem Keeps.grown {row : Option Nat} (h : Keeps U A B) (hg : B.grownBy C row) (hr : ∀ r, row = some r → ¬ U r) : Keeps U A C :=
  h.trans ⟨hg.os, hg.tape, hg.output, hg.size, fun k hk hB => hg.block k hB (fun e => hr k e.symm hk)⟩
theorem Keeps.cell (h : Keeps U A B) {p : Addr} {v : Value} (hp : U p.block) (hc : A.cell? p = some v) : B.cell? p = some v :=
  (World.cell?_of_block (w := A) (h.block _ hp (World.block_lt_of_cell? A _ hc))).trans hc
theorem Keeps.frozen (h : Keeps U A B) {p : Addr} (hp : U p.block) (hlt : p.block < A.heap.size) : B.frozen? p = A.frozen? p :=
  World.frozen?_of_block (w := A) (h.block _ hp hlt)
end

variable {F : Fence} {n : Nat} {P : Program}

/-- AN ITERATOR THAT TELLS xs: whatever the caller holds that the iterator's own steps leave alone (they keep the blocks T L, L being where the heap ends as the iterator begins) it holds on through them; a round that goes on keeps the blocks U L. -/
def Tells {α : Type} (F : Fence) (n : Nat) (P : Program) (g : Nat) (lb : Array Value) (encs : α → Array Value) (U T : Nat → Nat → Prop) (xs : List α) (w : World) : Prop :=
  ∀ (l : Nat) (J Jx : List α → World → Prop) (W : World), Below w.heap.size w W →
    (∀ s A B, J s A → Keeps (T W.heap.size) A B → J s B) →
    (∀ pre x W1, J pre W1 → pre ++ [x] <+: xs → YieldAt F (n - 1) P l (encs x) W1 fun e W' =>
      (e = .returned (.bool true) ∧ J (pre ++ [x]) W' ∧ Keeps (U W.heap.size) W1 W') ∨ (e = .returned (.bool false) ∧ Jx (pre ++ [x]) W')) →
    J [] W →
    CallsIn F n P g (#[.func (.yield l) #[] #[]] ++ lb) W fun e W' => (∃ v, e = .returned v) ∧ (J xs W' ∨ ∃ pre, pre <+: xs ∧ Jx pre W')

/-- The two blocks of the loop's own. -/
def Two (d : Nat) (k : Nat) : Prop := k = d ∨ k = d + 1

/-- How the body of a round may be left. -/
def roundEnd {α : Type} (d : Nat) (K : Nat → Prop) (I : List α → World → Prop) (Ix : Code → List α → World → Prop) (xs : List α) (W : World) : Exit → Act → World → Prop
  | .normal, _, W' => Keeps (fun k => K k ∨ Two d k) W W' ∧ I xs W'
  | .ret, _, W' => Keeps (Two d) W W' ∧ Ix .ret xs W'
  | .exit id, _, W' => Keeps (Two d) W W' ∧ Ix (.exit id) xs W'
  | .goto t, _, W' => Keeps (Two d) W W' ∧ Ix (.goto t) xs W'
  | .panic _, _, _ => False
  | .outgrown, _, _ => False

/-- What a world holds that has the loop's record at d + 1, and no deferred calls at d. -/
def Rec (d : Nat) (r : Loop) (W : World) : Prop := W.heap[d + 1]? = some (.loop r) ∧ W.heap[d]? = some (.deferred (some []))

theorem Rec.keep {d : Nat} {r : Loop} {A B : World} {U : Nat → Prop} (h : Rec d r A) (hk : Keeps U A B) (hU : ∀ k, Two d k → U k) : Rec d r B :=
  ⟨(hk.block _ (hU _ (.inr rfl)) (Array.getElem?_eq_some_iff.1 h.1).1).trans h.1, (hk.block _ (hU _ (.inl rfl)) (Array.getElem?_eq_some_iff.1 h.2).1).trans h.2⟩

theorem Rec.put {d : Nat} {r : Loop} {A : World} (r' : Loop) (h : Rec d r A) : Rec d r' (A.putObj (d + 1) (.loop r')) :=
  ⟨World.putObj_heap_same (Array.getElem?_eq_some_iff.1 h.1).1, (World.putObj_heap_other (by omega)).trans h.2⟩

theorem cell_putLoop {W : World} {d : Nat} {x y : Loop} (h : W.heap[d]? = some (.loop x)) (p : Addr) : (W.putObj d (.loop y)).cell? p = W.cell? p := by
  by_cases e : p.block = d
  · have h1 := World.putObj_heap_same (w := W) (o := .loop y) (Array.getElem?_eq_some_iff.1 h).1
    rw [← e] at h h1
    unfold World.cell?
    rw [← e, h1, h]
  · exact World.cell?_of_block (World.putObj_heap_other e)

/-- THE STATEMENT 'for .. := range seq { body }'. -/
theorem wpIn_range {α : Type} {g : Operand} {ps : Array Tmp} {assign body : Code} {Q : Exit → Act → World → Prop} {a : Act} {w : World}
    (hro : F.round = none) (h1 : 1 ≤ n) {gf : Nat} {lb : Array Value} (hg : a.eval g = .func (.func gf) #[] lb) (hFg : F.fn gf) (eg : ∀ args w, (callFunc gf args).run P w = .ok (.enter gf args) w)
    {encs : α → Array Value} {U T : Nat → Nat → Prop} {xs : List α} {w0 : World} (hseq : Tells F (n - 1) P gf lb encs U T xs w0) (hb0 : Below w0.heap.size w0 w) (hps : ∀ x, (encs x).size = ps.size)
    (V : Nat → Prop) (hV : ∀ k, Two w.heap.size k → ¬ V k) (hVT : ∀ k, V k → T (w.heap.size + 2) k) (hTT : ∀ k, Two w.heap.size k → T (w.heap.size + 2) k) (hU : ¬ U (w.heap.size + 2) (w.heap.size + 1))
    (I : List α → World → Prop) (Ix : Code → List α → World → Prop) (hI : ∀ s A B, I s A → Keeps V A B → I s B) (hIx : ∀ c s A B, Ix c s A → Keeps (fun k => ¬ Two w.heap.size k) A B → (∀ p, B.cell? p = A.cell? p) → Ix c s B)
    (h0 : I [] w) (a₁ : α → Act)
    (hassign : ∀ (l : Nat) (x : α) (W : World) (K : Act → World → Prop), K (a₁ x) W →
      assign.wpIn (F.inRound l) (n - 1 - 1) P (Exit.then K (fun _ _ _ => False)) { tmps := (ps.zip (encs x)).foldl (fun t (p, v) => t.setIfInBounds p v) a.tmps, defers := [] } W)
    (hbody : ∀ (l : Nat) (pre : List α) (x : α) (W : World), I pre W → pre ++ [x] <+: xs → w.heap.size + 2 ≤ W.heap.size →
      body.wpIn (F.inRound l) (n - 1 - 1) P (roundEnd w.heap.size (U (w.heap.size + 2)) I Ix (pre ++ [x]) W) (a₁ x) W)
    (hdone : ∀ (W : World), I xs W → W.heap[w.heap.size]? = some (.deferred (some [])) → Q .normal { a with defers := { target := .collected w.heap.size, args := #[] } :: a.defers } W)
    (hstop : ∀ (c : Code) (pre : List α) (W : World), pre <+: xs → Ix c pre W → W.heap[w.heap.size]? = some (.deferred (some [])) → c.wpIn F n P Q { a with defers := { target := .collected w.heap.size, args := #[] } :: a.defers } W) :
    (Code.rangeFunc g ps assign body).wpIn F n P Q a w := by
  refine wpIn_rangeFunc fun fn hfn => ?_
  rw [hro]
  obtain ⟨r, hr⟩ : ∃ r : LoopState → Option Code → Loop, r = fun st pe => { state := st, pending := pe, fn := fn, tmps := a.tmps, params := ps, assign := assign, body := body, defers := w.heap.size } := ⟨_, rfl⟩
  obtain ⟨W1, hW1⟩ : ∃ W1, (w.alloc (.deferred (some []))).alloc (.loop (r .ready none)) = W1 := ⟨_, rfl⟩
  have hs1 : W1.heap.size = w.heap.size + 2 := by rw [← hW1]; simp
  have hR1 : Rec w.heap.size (r .ready none) W1 := by
    rw [← hW1]
    refine ⟨?_, (Below.heap_alloc _ _ _ (by simp)).trans (World.alloc_heap_new w _)⟩
    have := World.alloc_heap_new (w.alloc (.deferred (some []))) (.loop (r .ready none))
    rwa [World.size_alloc] at this
  have hk1 : Keeps V w W1 := by rw [← hW1]; exact ((Keeps.refl V w).alloc _).alloc _
  have hb1 : Below w0.heap.size w0 W1 := by
    rw [← hW1]; exact hb0.trans ((((Below.refl _ w).alloc (Nat.le_refl _) _).alloc (by simp) _).mono hb0.size)
  refine ⟨w.heap.size + 1, [{ target := .collected w.heap.size, args := #[] }], W1, { target := .fn (.func gf) lb, args := #[.func (.yield (w.heap.size + 1)) #[] #[]] }, W1, gf,
    #[.func (.yield (w.heap.size + 1)) #[] #[]] ++ lb, W1, ?_, ?_, ?_, ?_, fun _ => h1, ?_⟩
  · rw [← hW1, hr]; exact run_enterLoop_outer _ _ _ _ _
  · simp only [resolve, hg]
    simp [go_sem]
  · intro f' hf'; simp [Target.leads] at hf'; subst hf'; exact hFg
  · simp [invoke, go_sem, eg]
  refine (hseq (w.heap.size + 1) (fun pre W => I pre W ∧ Rec w.heap.size (r .ready none) W) (fun pre W => ∃ c, Ix c pre W ∧ Rec w.heap.size (r .done (some c)) W) W1 hb1
    (fun s A B hs hk => ⟨hI s A B hs.1 (hk.mono fun k hv _ => hs1 ▸ hVT k hv), hs.2.keep hk (fun k h => hs1 ▸ hTT k h)⟩)
    ?_ ⟨hI _ _ _ h0 hk1, hR1⟩).mono ?_
  · rintro pre x W ⟨hi, hrec⟩ hpre
    have hy := run_yield (P := P) (args := encs x) hrec.1 (by rw [hr]; exact hps x)
    have hst : (r .ready none).state = .ready := by rw [hr]
    obtain ⟨B, hB⟩ : ∃ B : Loop, B = { r .ready none with state := .busy } := ⟨_, rfl⟩
    refine ⟨fn, _, assign, body, by rw [hy, hr], roundIn_of_wpIn hfn (hassign _ x W _ ⟨_, run_beginRound hrec.1 hst, ?_⟩)⟩
    rw [← hB]
    have hnV : ¬ V (w.heap.size + 1) := hV _ (.inr rfl)
    have hrb : Rec w.heap.size B (W.putObj (w.heap.size + 1) (.loop B)) := hrec.put B
    have hi2 : I pre (W.putObj (w.heap.size + 1) (.loop B)) := hI _ _ _ hi ((Keeps.refl V W).putObj hnV _)
    have hsz : w.heap.size + 2 ≤ W.heap.size := by have := (Array.getElem?_eq_some_iff.1 hrec.1).1; omega
    refine wpIn_mono (hbody _ pre x _ hi2 hpre (by simpa using hsz)) ?_
    have fin : ∀ (j : Option Code) (W3 : World), Rec w.heap.size B W3 →
        (Instr.endRound (w.heap.size + 1) j).run P W3 = .ok (.bool j.isNone) (W3.putObj (w.heap.size + 1) (.loop (r (if j.isNone then .ready else .done) j))) ∧
        Rec w.heap.size (r (if j.isNone then .ready else .done) j) (W3.putObj (w.heap.size + 1) (.loop (r (if j.isNone then .ready else .done) j))) := fun j W3 h3 => by
      have := run_endRound (P := P) j h3.1
      rw [hB, hr] at this
      refine ⟨by rw [this, hr], h3.put _⟩
    intro e a3 W3 hp
    cases e with
    | normal =>
      obtain ⟨hk3, hi3⟩ := hp
      obtain ⟨hrun, hr3⟩ := fin none W3 (hrb.keep hk3 fun k h => .inr h)
      refine ⟨_, _, hrun, .inl ⟨rfl, ⟨hI _ _ _ hi3 ((Keeps.refl V W3).putObj hnV _), hr3⟩, ?_⟩⟩
      rw [hs1]
      exact (((Keeps.refl _ W).putObj hU _).trans (hk3.mono fun k h _ => .inl h)).putObj hU _
    | ret =>
      obtain ⟨hk3, hi3⟩ := hp
      have hrb3 := hrb.keep hk3 fun k h => h
      obtain ⟨hrun, hr3⟩ := fin (some .ret) W3 hrb3
      exact ⟨_, _, hrun, .inr ⟨rfl, .ret, hIx _ _ _ _ hi3 ((Keeps.refl _ W3).putObj (fun h => h (.inr rfl)) _) (cell_putLoop hrb3.1), hr3⟩⟩
    | exit id =>
      obtain ⟨hk3, hi3⟩ := hp
      have hrb3 := hrb.keep hk3 fun k h => h
      obtain ⟨hrun, hr3⟩ := fin (some (.exit id)) W3 hrb3
      exact ⟨_, _, hrun, .inr ⟨rfl, .exit id, hIx _ _ _ _ hi3 ((Keeps.refl _ W3).putObj (fun h => h (.inr rfl)) _) (cell_putLoop hrb3.1), hr3⟩⟩
    | goto t =>
      obtain ⟨hk3, hi3⟩ := hp
      have hrb3 := hrb.keep hk3 fun k h => h
      obtain ⟨hrun, hr3⟩ := fin (some (.goto t)) W3 hrb3
      exact ⟨_, _, hrun, .inr ⟨rfl, .goto t, hIx _ _ _ _ hi3 ((Keeps.refl _ W3).putObj (fun h => h (.inr rfl)) _) (cell_putLoop hrb3.1), hr3⟩⟩
    | panic ch => exact hp.elim
    | outgrown => exact hp.elim
  · have hnV : ¬ V (w.heap.size + 1) := hV _ (.inr rfl)
    rintro e W2 ⟨⟨v, rfl⟩, (⟨hi, hrec⟩ | ⟨pre, hpre, c, hi, hrec⟩)⟩
    · have hb : (r .ready none).state ≠ .busy := by rw [hr]; simp
      have := run_endLoop (P := P) hrec.1 hb
      refine ⟨none, _, by rw [this, hr], hdone _ (hI _ _ _ hi ((Keeps.refl V W2).putObj hnV _)) ((World.putObj_heap_other (by omega)).trans hrec.2)⟩
    · have hb : (r .done (some c)).state ≠ .busy := by rw [hr]; simp
      have := run_endLoop (P := P) hrec.1 hb
      refine ⟨some c, _, by rw [this, hr], hstop c pre _ hpre (hIx _ _ _ _ hi ((Keeps.refl _ W2).putObj (fun h => h (.inr rfl)) _) (cell_putLoop hrec.1)) ((World.putObj_heap_other (by omega)).trans hrec.2)⟩
end Go.Proofs.Ytbcabomblfehlab.Rf

namespace Go.Proofs.Ytbcabomblfehlab.Rf
open Go.RowKit
variable {F : Fence} {n : Nat} {P : Program}

/-- AN ITERATOR THAT TELLS xs, leaning on G, which the caller holds: whatever the caller holds that the iterator's own steps leave alone (they keep the blocks T L, L being where the heap ends as the iterator begins) it holds on through them; a round that goes on keeps the blocks U L. -/
def TellsG {α : Type} (F : Fence) (n : Nat) (P : Program) (g : Nat) (lb : Array Value) (encs : α → Array Value) (U T : Nat → Nat → Prop) (G : List α → World → Prop) (xs : List α) (w : World) : Prop :=
  ∀ (l : Nat) (J Jx : List α → World → Prop) (W : World), Below w.heap.size w W →
    (∀ s A B, J s A → Keeps (T W.heap.size) A B → J s B) →
    (∀ pre x W1, J pre W1 → pre ++ [x] <+: xs → YieldAt F (n - 1) P l (encs x) W1 fun e W' =>
      (e = .returned (.bool true) ∧ J (pre ++ [x]) W' ∧ Keeps (U W.heap.size) W1 W') ∨ (e = .returned (.bool false) ∧ Jx (pre ++ [x]) W')) →
    (∀ s A, J s A → G s A) → J [] W →
    CallsIn F n P g (#[.func (.yield l) #[] #[]] ++ lb) W fun e W' => (∃ v, e = .returned v) ∧ (J xs W' ∨ ∃ pre, pre <+: xs ∧ Jx pre W')

/-- THE STATEMENT 'for .. := range seq { body }'. -/
theorem wpIn_rangeG {α : Type} {g : Operand} {ps : Array Tmp} {assign body : Code} {Q : Exit → Act → World → Prop} {a : Act} {w : World}
    (hro : F.round = none) (h1 : 1 ≤ n) {gf : Nat} {lb : Array Value} (hg : a.eval g = .func (.func gf) #[] lb) (hFg : F.fn gf) (eg : ∀ args w, (callFunc gf args).run P w = .ok (.enter gf args) w)
    {encs : α → Array Value} {U T : Nat → Nat → Prop} {xs : List α} {w0 : World} {G : List α → World → Prop} (hseq : TellsG F (n - 1) P gf lb encs U T G xs w0) (hb0 : Below w0.heap.size w0 w) (hps : ∀ x, (encs x).size = ps.size)
    (V : Nat → Prop) (hV : ∀ k, Two w.heap.size k → ¬ V k) (hVT : ∀ k, V k → T (w.heap.size + 2) k) (hTT : ∀ k, Two w.heap.size k → T (w.heap.size + 2) k) (hU : ¬ U (w.heap.size + 2) (w.heap.size + 1))
    (I : List α → World → Prop) (Ix : Code → List α → World → Prop) (hI : ∀ s A B, I s A → Keeps V A B → I s B) (hIx : ∀ c s A B, Ix c s A → Keeps (fun k => ¬ Two w.heap.size k) A B → (∀ p, B.cell? p = A.cell? p) → Ix c s B)
    (hG : ∀ s A, I s A → G s A) (h0 : I [] w) (a₁ : α → Act)
    (hassign : ∀ (l : Nat) (x : α) (W : World) (K : Act → World → Prop), K (a₁ x) W →
      assign.wpIn (F.inRound l) (n - 1 - 1) P (Exit.then K (fun _ _ _ => False)) { tmps := (ps.zip (encs x)).foldl (fun t (p, v) => t.setIfInBounds p v) a.tmps, defers := [] } W)
    (hbody : ∀ (l : Nat) (pre : List α) (x : α) (W : World), I pre W → pre ++ [x] <+: xs → w.heap.size + 2 ≤ W.heap.size →
      body.wpIn (F.inRound l) (n - 1 - 1) P (roundEnd w.heap.size (U (w.heap.size + 2)) I Ix (pre ++ [x]) W) (a₁ x) W)
    (hdone : ∀ (W : World), I xs W → W.heap[w.heap.size]? = some (.deferred (some [])) → Q .normal { a with defers := { target := .collected w.heap.size, args := #[] } :: a.defers } W)
    (hstop : ∀ (c : Code) (pre : List α) (W : World), pre <+: xs → Ix c pre W → W.heap[w.heap.size]? = some (.deferred (some [])) → c.wpIn F n P Q { a with defers := { target := .collected w.heap.size, args := #[] } :: a.defers } W) :
    (Code.rangeFunc g ps assign body).wpIn F n P Q a w := by
  refine wpIn_rangeFunc fun fn hfn => ?_
  rw [hro]
  obtain ⟨r, hr⟩ : ∃ r : LoopState → Option Code → Loop, r = fun st pe => { state := st, pending := pe, fn := fn, tmps := a.tmps, params := ps, assign := assign, body := body, defers := w.heap.size } := ⟨_, rfl⟩
  obtain ⟨W1, hW1⟩ : ∃ W1, (w.alloc (.deferred (some []))).alloc (.loop (r .ready none)) = W1 := ⟨_, rfl⟩
  have hs1 : W1.heap.size = w.heap.size + 2 := by rw [← hW1]; simp
  have hR1 : Rec w.heap.size (r .ready none) W1 := by
    rw [← hW1]
    refine ⟨?_, (Below.heap_alloc _ _ _ (by simp)).trans (World.alloc_heap_new w _)⟩
    have := World.alloc_heap_new (w.alloc (.deferred (some []))) (.loop (r .ready none))
    rwa [World.size_alloc] at this
  have hk1 : Keeps V w W1 := by rw [← hW1]; exact ((Keeps.refl V w).alloc _).alloc _
  have hb1 : Below w0.heap.size w0 W1 := by
    rw [← hW1]; exact hb0.trans ((((Below.refl _ w).alloc (Nat.le_refl _) _).alloc (by simp) _).mono hb0.size)
  refine ⟨w.heap.size + 1, [{ target := .collected w.heap.size, args := #[] }], W1, { target := .fn (.func gf) lb, args := #[.func (.yield (w.heap.size + 1)) #[] #[]] }, W1, gf,
    #[.func (.yield (w.heap.size + 1)) #[] #[]] ++ lb, W1, ?_, ?_, ?_, ?_, fun _ => h1, ?_⟩
  · rw [← hW1, hr]; exact run_enterLoop_outer _ _ _ _ _
  · simp only [resolve, hg]
    simp [go_sem]
  · intro f' hf'; simp [Target.leads] at hf'; subst hf'; exact hFg
  · simp [invoke, go_sem, eg]
  refine (hseq (w.heap.size + 1) (fun pre W => I pre W ∧ Rec w.heap.size (r .ready none) W) (fun pre W => ∃ c, Ix c pre W ∧ Rec w.heap.size (r .done (some c)) W) W1 hb1
    (fun s A B hs hk => ⟨hI s A B hs.1 (hk.mono fun k hv _ => hs1 ▸ hVT k hv), hs.2.keep hk (fun k h => hs1 ▸ hTT k h)⟩)
    ?_ (fun s A hs => hG s A hs.1) ⟨hI _ _ _ h0 hk1, hR1⟩).mono ?_
  · rintro pre x W ⟨hi, hrec⟩ hpre
    have hy := run_yield (P := P) (args := encs x) hrec.1 (by rw [hr]; exact hps x)
    have hst : (r .ready none).state = .ready := by rw [hr]
    obtain ⟨B, hB⟩ : ∃ B : Loop, B = { r .ready none with state := .busy } := ⟨_, rfl⟩
    refine ⟨fn, _, assign, body, by rw [hy, hr], roundIn_of_wpIn hfn (hassign _ x W _ ⟨_, run_beginRound hrec.1 hst, ?_⟩)⟩
    rw [← hB]
    have hnV : ¬ V (w.heap.size + 1) := hV _ (.inr rfl)
    have hrb : Rec w.heap.size B (W.putObj (w.heap.size + 1) (.loop B)) := hrec.put B
    have hi2 : I pre (W.putObj (w.heap.size + 1) (.loop B)) := hI _ _ _ hi ((Keeps.refl V W).putObj hnV _)
    have hsz : w.heap.size + 2 ≤ W.heap.size := by have := (Array.getElem?_eq_some_iff.1 hrec.1).1; omega
    refine wpIn_mono (hbody _ pre x _ hi2 hpre (by simpa using hsz)) ?_
    have fin : ∀ (j : Option Code) (W3 : World), Rec w.heap.size B W3 →
        (Instr.endRound (w.heap.size + 1) j).run P W3 = .ok (.bool j.isNone) (W3.putObj (w.heap.size + 1) (.loop (r (if j.isNone then .ready else .done) j))) ∧
        Rec w.heap.size (r (if j.isNone then .ready else .done) j) (W3.putObj (w.heap.size + 1) (.loop (r (if j.isNone then .ready else .done) j))) := fun j W3 h3 => by
      have := run_endRound (P := P) j h3.1
      rw [hB, hr] at this
      refine ⟨by rw [this, hr], h3.put _⟩
    intro e a3 W3 hp
    cases e with
    | normal =>
      obtain ⟨hk3, hi3⟩ := hp
      obtain ⟨hrun, hr3⟩ := fin none W3 (hrb.keep hk3 fun k h => .inr h)
      refine ⟨_, _, hrun, .inl ⟨rfl, ⟨hI _ _ _ hi3 ((Keeps.refl V W3).putObj hnV _), hr3⟩, ?_⟩⟩
      rw [hs1]
      exact (((Keeps.refl _ W).putObj hU _).trans (hk3.mono fun k h _ => .inl h)).putObj hU _
    | ret =>
      obtain ⟨hk3, hi3⟩ := hp
      have hrb3 := hrb.keep hk3 fun k h => h
      obtain ⟨hrun, hr3⟩ := fin (some .ret) W3 hrb3
      exact ⟨_, _, hrun, .inr ⟨rfl, .ret, hIx _ _ _ _ hi3 ((Keeps.refl _ W3).putObj (fun h => h (.inr rfl)) _) (cell_putLoop hrb3.1), hr3⟩⟩
    | exit id =>
      obtain ⟨hk3, hi3⟩ := hp
      have hrb3 := hrb.keep hk3 fun k h => h
      obtain ⟨hrun, hr3⟩ := fin (some (.exit id)) W3 hrb3
      exact ⟨_, _, hrun, .inr ⟨rfl, .exit id, hIx _ _ _ _ hi3 ((Keeps.refl _ W3).putObj (fun h => h (.inr rfl)) _) (cell_putLoop hrb3.1), hr3⟩⟩
    | goto t =>
      obtain ⟨hk3, hi3⟩ := hp
      have hrb3 := hrb.keep hk3 fun k h => h
      obtain ⟨hrun, hr3⟩ := fin (some (.goto t)) W3 hrb3
      exact ⟨_, _, hrun, .inr ⟨rfl, .goto t, hIx _ _ _ _ hi3 ((Keeps.refl _ W3).putObj (fun h => h (.inr rfl)) _) (cell_putLoop hrb3.1), hr3⟩⟩
    | panic ch => exact hp.elim
    | outgrown => exact hp.elim
  · have hnV : ¬ V (w.heap.size + 1) := hV _ (.inr rfl)
    rintro e W2 ⟨⟨v, rfl⟩, (⟨hi, hrec⟩ | ⟨pre, hpre, c, hi, hrec⟩)⟩
    · have hb : (r .ready none).state ≠ .busy := by rw [hr]; simp
      have := run_endLoop (P := P) hrec.1 hb
      refine ⟨none, _, by rw [this, hr], hdone _ (hI _ _ _ hi ((Keeps.refl V W2).putObj hnV _)) ((World.putObj_heap_other (by omega)).trans hrec.2)⟩
    · have hb : (r .done (some c)).state ≠ .busy := by rw [hr]; simp
      have := run_endLoop (P := P) hrec.1 hb
      refine ⟨some c, _, by rw [this, hr], hstop c pre _ hpre (hIx _ _ _ _ hi ((Keeps.refl _ W2).putObj (fun h => h (.inr rfl)) _) (cell_putLoop hrec.1)) ((World.putObj_heap_other (by omega)).trans hrec.2)⟩
end Go.Proofs.Ytbcabomblfehlab.Rf

namespace Go.Proofs.Ytbcabomblfehlab.Rf
open Go.RowKit
variable {F : Fence} {n : Nat} {P : Program}

/-- AN ITERATOR THAT TELLS what Ok allows, one behind the other, and in the end all that End asks. -/
def TellsM {α : Type} (F : Fence) (n : Nat) (P : Program) (g : Nat) (lb : Array Value) (encs : α → Array Value) (U T : Nat → Nat → Nat → Prop) (Ok : Nat → List α → World → Prop) (End : List α → Prop) (w : World) : Prop :=
  ∀ (l : Nat) (J : Nat → List α → World → Prop) (Jx : List α → World → Prop) (W : World), Below w.heap.size w W →
    (∀ M s A B, W.heap.size ≤ M → J M s A → Keeps (T W.heap.size M) A B → J M s B) →
    (∀ M pre x W1, W.heap.size ≤ M → J M pre W1 → Ok M (pre ++ [x]) W1 → YieldAt F (n - 1) P l (encs x) W1 fun e W' =>
      (e = .returned (.bool true) ∧ J M (pre ++ [x]) W' ∧ Keeps (U W.heap.size M) W1 W') ∨ (e = .returned (.bool false) ∧ Jx (pre ++ [x]) W')) →
    (∀ M, W.heap.size ≤ M → J M [] W) →
    CallsIn F n P g (#[.func (.yield l) #[] #[]] ++ lb) W fun e W' => (∃ v, e = .returned v) ∧ ((∃ M xs, W.heap.size ≤ M ∧ End xs ∧ J M xs W') ∨ ∃ pre, Jx pre W')

/-- THE STATEMENT 'for .. := range seq { body }'. -/
theorem wpIn_rangeM {α : Type} {g : Operand} {ps : Array Tmp} {assign body : Code} {Q : Exit → Act → World → Prop} {a : Act} {w : World}
    (hro : F.round = none) (h1 : 1 ≤ n) {gf : Nat} {lb : Array Value} (hg : a.eval g = .func (.func gf) #[] lb) (hFg : F.fn gf) (eg : ∀ args w, (callFunc gf args).run P w = .ok (.enter gf args) w)
    {encs : α → Array Value} {U T : Nat → Nat → Nat → Prop} {w0 : World} {Ok : Nat → List α → World → Prop} {End : List α → Prop} (hseq : TellsM F (n - 1) P gf lb encs U T Ok End w0) (hb0 : Below w0.heap.size w0 w) (hps : ∀ x, (encs x).size = ps.size)
    (V : Nat → Nat → Prop) (hV : ∀ M k, w.heap.size + 2 ≤ M → Two w.heap.size k → ¬ V M k) (hVT : ∀ M k, w.heap.size + 2 ≤ M → V M k → T (w.heap.size + 2) M k) (hTT : ∀ M k, w.heap.size + 2 ≤ M → Two w.heap.size k → T (w.heap.size + 2) M k) (hU : ∀ M, ¬ U (w.heap.size + 2) M (w.heap.size + 1))
    (I : Nat → List α → World → Prop) (Ix : Code → List α → World → Prop) (hI : ∀ M s A B, w.heap.size + 2 ≤ M → I M s A → Keeps (V M) A B → I M s B) (hIx : ∀ c s A B, Ix c s A → Keeps (fun k => ¬ Two w.heap.size k) A B → (∀ p, B.cell? p = A.cell? p) → Ix c s B)
    (hOk : ∀ M s A B, Ok M s A → Keeps (fun k => k ≠ w.heap.size + 1) A B → (∀ p, B.cell? p = A.cell? p) → Ok M s B) (h0 : ∀ M, w.heap.size + 2 ≤ M → I M [] w) (a₁ : α → Act)
    (hassign : ∀ (l : Nat) (x : α) (W : World) (K : Act → World → Prop), K (a₁ x) W →
      assign.wpIn (F.inRound l) (n - 1 - 1) P (Exit.then K (fun _ _ _ => False)) { tmps := (ps.zip (encs x)).foldl (fun t (p, v) => t.setIfInBounds p v) a.tmps, defers := [] } W)
    (hbody : ∀ (l M : Nat) (pre : List α) (x : α) (W : World), w.heap.size + 2 ≤ M → I M pre W → Ok M (pre ++ [x]) W → w.heap.size + 2 ≤ W.heap.size →
      body.wpIn (F.inRound l) (n - 1 - 1) P (roundEnd w.heap.size (U (w.heap.size + 2) M) (I M) Ix (pre ++ [x]) W) (a₁ x) W)
    (hdone : ∀ (M : Nat) (xs : List α) (W : World), w.heap.size + 2 ≤ M → End xs → I M xs W → W.heap[w.heap.size]? = some (.deferred (some [])) → Q .normal { a with defers := { target := .collected w.heap.size, args := #[] } :: a.defers } W)
    (hstop : ∀ (c : Code) (pre : List α) (W : World), Ix c pre W → W.heap[w.heap.size]? = some (.deferred (some [])) → c.wpIn F n P Q { a with defers := { target := .collected w.heap.size, args := #[] } :: a.defers } W) :
    (Code.rangeFunc g ps assign body).wpIn F n P Q a w := by
  refine wpIn_rangeFunc fun fn hfn => ?_
  rw [hro]
  obtain ⟨r, hr⟩ : ∃ r : LoopState → Option Code → Loop, r = fun st pe => { state := st, pending := pe, fn := fn, tmps := a.tmps, params := ps, assign := assign, body := body, defers := w.heap.size } := ⟨_, rfl⟩
  obtain ⟨W1, hW1⟩ : ∃ W1, (w.alloc (.deferred (some []))).alloc (.loop (r .ready none)) = W1 := ⟨_, rfl⟩
  have hs1 : W1.heap.size = w.heap.size + 2 := by rw [← hW1]; simp
  have hR1 : Rec w.heap.size (r .ready none) W1 := by
    rw [← hW1]
    refine ⟨?_, (Below.heap_alloc _ _ _ (by simp)).trans (World.alloc_heap_new w _)⟩
    have := World.alloc_heap_new (w.alloc (.deferred (some []))) (.loop (r .ready none))
    rwa [World.size_alloc] at this
  have hk1 : ∀ M, Keeps (V M) w W1 := fun M => by rw [← hW1]; exact ((Keeps.refl _ w).alloc _).alloc _
  have hb1 : Below w0.heap.size w0 W1 := by
    rw [← hW1]; exact hb0.trans ((((Below.refl _ w).alloc (Nat.le_refl _) _).alloc (by simp) _).mono hb0.size)
  refine ⟨w.heap.size + 1, [{ target := .collected w.heap.size, args := #[] }], W1, { target := .fn (.func gf) lb, args := #[.func (.yield (w.heap.size + 1)) #[] #[]] }, W1, gf,
    #[.func (.yield (w.heap.size + 1)) #[] #[]] ++ lb, W1, ?_, ?_, ?_, ?_, fun _ => h1, ?_⟩
  · rw [← hW1, hr]; exact run_enterLoop_outer _ _ _ _ _
  · simp only [resolve, hg]
    simp [go_sem]
  · intro f' hf'; simp [Target.leads] at hf'; subst hf'; exact hFg
  · simp [invoke, go_sem, eg]
  refine (hseq (w.heap.size + 1) (fun M pre W => I M pre W ∧ Rec w.heap.size (r .ready none) W) (fun pre W => ∃ c, Ix c pre W ∧ Rec w.heap.size (r .done (some c)) W) W1 hb1
    (fun M s A B hM hs hk => ⟨hI M s A B (hs1 ▸ hM) hs.1 (hk.mono fun k hv _ => hs1 ▸ hVT M k (hs1 ▸ hM) hv), hs.2.keep hk (fun k h => hs1 ▸ hTT M k (hs1 ▸ hM) h)⟩)
    ?_ (fun M hM => ⟨hI M _ _ _ (hs1 ▸ hM) (h0 M (hs1 ▸ hM)) (hk1 M), hR1⟩)).mono ?_
  · rintro M pre x W hM ⟨hi, hrec⟩ hpre
    rw [hs1] at hM
    have hy := run_yield (P := P) (args := encs x) hrec.1 (by rw [hr]; exact hps x)
    have hst : (r .ready none).state = .ready := by rw [hr]
    obtain ⟨B, hB⟩ : ∃ B : Loop, B = { r .ready none with state := .busy } := ⟨_, rfl⟩
    refine ⟨fn, _, assign, body, by rw [hy, hr], roundIn_of_wpIn hfn (hassign _ x W _ ⟨_, run_beginRound hrec.1 hst, ?_⟩)⟩
    rw [← hB]
    have hnV : ¬ V M (w.heap.size + 1) := hV M _ hM (.inr rfl)
    have hrb : Rec w.heap.size B (W.putObj (w.heap.size + 1) (.loop B)) := hrec.put B
    have hi2 : I M pre (W.putObj (w.heap.size + 1) (.loop B)) := hI _ _ _ _ hM hi ((Keeps.refl _ W).putObj hnV _)
    have hok2 : Ok M (pre ++ [x]) (W.putObj (w.heap.size + 1) (.loop B)) := hOk _ _ _ _ hpre ((Keeps.refl _ W).putObj (fun h => h rfl) _) (cell_putLoop hrec.1)
    have hsz : w.heap.size + 2 ≤ W.heap.size := by have := (Array.getElem?_eq_some_iff.1 hrec.1).1; omega
    refine wpIn_mono (hbody _ M pre x _ hM hi2 hok2 (by simpa using hsz)) ?_
    have fin : ∀ (j : Option Code) (W3 : World), Rec w.heap.size B W3 →
        (Instr.endRound (w.heap.size + 1) j).run P W3 = .ok (.bool j.isNone) (W3.putObj (w.heap.size + 1) (.loop (r (if j.isNone then .ready else .done) j))) ∧
        Rec w.heap.size (r (if j.isNone then .ready else .done) j) (W3.putObj (w.heap.size + 1) (.loop (r (if j.isNone then .ready else .done) j))) := fun j W3 h3 => by
      have := run_endRound (P := P) j h3.1
      rw [hB, hr] at this
      refine ⟨by rw [this, hr], h3.put _⟩
    intro e a3 W3 hp
    cases e with
    | normal =>
      obtain ⟨hk3, hi3⟩ := hp
      obtain ⟨hrun, hr3⟩ := fin none W3 (hrb.keep hk3 fun k h => .inr h)
      refine ⟨_, _, hrun, .inl ⟨rfl, ⟨hI _ _ _ _ hM hi3 ((Keeps.refl _ W3).putObj hnV _), hr3⟩, ?_⟩⟩
      rw [hs1]
      exact (((Keeps.refl _ W).putObj (hU M) _).trans (hk3.mono fun k h _ => .inl h)).putObj (hU M) _
    | ret =>
      obtain ⟨hk3, hi3⟩ := hp
      have hrb3 := hrb.keep hk3 fun k h => h
      obtain ⟨hrun, hr3⟩ := fin (some .ret) W3 hrb3
      exact ⟨_, _, hrun, .inr ⟨rfl, .ret, hIx _ _ _ _ hi3 ((Keeps.refl _ W3).putObj (fun h => h (.inr rfl)) _) (cell_putLoop hrb3.1), hr3⟩⟩
    | exit id =>
      obtain ⟨hk3, hi3⟩ := hp
      have hrb3 := hrb.keep hk3 fun k h => h
      obtain ⟨hrun, hr3⟩ := fin (some (.exit id)) W3 hrb3
      exact ⟨_, _, hrun, .inr ⟨rfl, .exit id, hIx _ _ _ _ hi3 ((Keeps.refl _ W3).putObj (fun h => h (.inr rfl)) _) (cell_putLoop hrb3.1), hr3⟩⟩
    | goto t =>
      obtain ⟨hk3, hi3⟩ := hp
      have hrb3 := hrb.keep hk3 fun k h => h
      obtain ⟨hrun, hr3⟩ := fin (some (.goto t)) W3 hrb3
      exact ⟨_, _, hrun, .inr ⟨rfl, .goto t, hIx _ _ _ _ hi3 ((Keeps.refl _ W3).putObj (fun h => h (.inr rfl)) _) (cell_putLoop hrb3.1), hr3⟩⟩
    | panic ch => exact hp.elim
    | outgrown => exact hp.elim
  · rintro e W2 ⟨⟨v, rfl⟩, (⟨M, xs, hM, hend, hi, hrec⟩ | ⟨pre, c, hi, hrec⟩)⟩
    · rw [hs1] at hM
      have hnV : ¬ V M (w.heap.size + 1) := hV M _ hM (.inr rfl)
      have hb : (r .ready none).state ≠ .busy := by rw [hr]; simp
      have := run_endLoop (P := P) hrec.1 hb
      refine ⟨none, _, by rw [this, hr], hdone M xs _ hM hend (hI _ _ _ _ hM hi ((Keeps.refl _ W2).putObj hnV _)) ((World.putObj_heap_other (by omega)).trans hrec.2)⟩
    · have hb : (r .done (some c)).state ≠ .busy := by rw [hr]; simp
      have := run_endLoop (P := P) hrec.1 hb
      refine ⟨some c, _, by rw [this, hr], hstop c pre _ (hIx _ _ _ _ hi ((Keeps.refl _ W2).putObj (fun h => h (.inr rfl)) _) (cell_putLoop hrec.1)) ((World.putObj_heap_other (by omega)).trans hrec.2)⟩
end Go.Proofs.Ytbcabomblfehlab.Rf
