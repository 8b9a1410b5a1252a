/-
  A RANGE OVER A FUNCTION that ranges over a function itself, of no program: what holds where a round has stopped the loop is not turned by the iterators' own last steps.
-/
import Derived.Test.YtmabenffdpipmaaSc
namespace Go.Proofs.Ytmabenffdpipmaa.Rf
open Go.RowKit
variable {F : Fence} {n : Nat} {P : Program}

/-- AN ITERATOR THAT TELLS xs, as Tells; a round that stops keeps what the iterator has laid; what holds then is not turned by what the iterator does to its own blocks. -/
def TellsX {α : Type} (F : Fence) (n : Nat) (P : Program) (g : Nat) (lb : Array Value) (encs : α → Array Value) (U T : Nat → Nat → Prop) (xs : List α) (w : World) : Prop :=
  ∀ (l : Nat) (J Jx : List α → World → Prop) (W : World), Below w.heap.size w W →
    (∀ s A B, J s A → Keeps (T W.heap.size) A B → J s B) →
    (∀ s A B, Jx s A → Keeps (fun k => k < W.heap.size) A B → (∀ p, B.cell? p = A.cell? p) → Jx s B) →
    (∀ pre x W1, J pre W1 → pre ++ [x] <+: xs → YieldAt F (n - 1) P l (encs x) W1 fun e W' =>
      (e = .returned (.bool true) ∧ J (pre ++ [x]) W' ∧ Keeps (U W.heap.size) W1 W') ∨ (e = .returned (.bool false) ∧ Jx (pre ++ [x]) W' ∧ Keeps (fun k => W.heap.size ≤ k) W1 W')) →
    J [] W →
    CallsIn F n P g (#[.func (.yield l) #[] #[]] ++ lb) W fun e W' => (∃ v, e = .returned v) ∧ (J xs W' ∨ ∃ pre, pre <+: xs ∧ Jx pre W')

/-- How the body of a round may be left. -/
def roundEndX {α : Type} (d : Nat) (K : Nat → Prop) (I : List α → World → Prop) (Ix : Code → List α → World → Prop) (xs : List α) (W : World) : Exit → Act → World → Prop
  | .normal, _, W' => Keeps (fun k => K k ∨ Two d k) W W' ∧ I xs W'
  | .ret, _, W' => Keeps (fun k => d + 2 ≤ k ∨ Two d k) W W' ∧ Ix .ret xs W'
  | .exit id, _, W' => Keeps (fun k => d + 2 ≤ k ∨ Two d k) W W' ∧ Ix (.exit id) xs W'
  | .goto t, _, W' => Keeps (fun k => d + 2 ≤ k ∨ Two d k) W W' ∧ Ix (.goto t) xs W'
  | .panic _, _, _ => False
  | .outgrown, _, _ => False

theorem roundIn_any {n' l l' : Nat} {fn : FuncId} {tmps : Array Value} {assign body : Code} {w : World} {R : Ending → World → Prop} (h : RoundIn Fence.wide n P l fn tmps assign body w R) : RoundIn (Fence.wide.inRound l') n' P l fn tmps assign body w R :=
  ⟨h.1, fun c cs _ => h.2 c cs (fun d e => by cases e)⟩

theorem cell_putDeferred {W : World} {d : Nat} {x y : Option (List Deferred)} (h : W.heap[d]? = some (.deferred x)) (p : Addr) : (W.putObj d (.deferred y)).cell? p = W.cell? p := by
  by_cases e : p.block = d
  · have h1 := World.putObj_heap_same (w := W) (o := .deferred y) (Array.getElem?_eq_some_iff.1 h).1
    rw [← e] at h h1
    unfold World.cell?
    rw [← e, h1, h]
  · exact World.cell?_of_block (World.putObj_heap_other e)

/-- THE STATEMENT 'for .. := range seq { body }'. -/
theorem wpIn_rangeX {α : Type} {g : Operand} {ps : Array Tmp} {assign body : Code} {Q : Exit → Act → World → Prop} {a : Act} {w : World}
    (hro : F.round = none) (h1 : 1 ≤ n) {gf : Nat} {lb : Array Value} (hg : a.eval g = .func (.func gf) #[] lb) (hFg : F.fn gf) (eg : ∀ args w, (callFunc gf args).run P w = .ok (.enter gf args) w)
    {encs : α → Array Value} {U T : Nat → Nat → Prop} {xs : List α} {w0 : World} (hseq : TellsX F (n - 1) P gf lb encs U T xs w0) (hb0 : Below w0.heap.size w0 w) (hps : ∀ x, (encs x).size = ps.size)
    (V : Nat → Prop) (hV : ∀ k, Two w.heap.size k → ¬ V k) (hVT : ∀ k, V k → T (w.heap.size + 2) k) (hTT : ∀ k, Two w.heap.size k → T (w.heap.size + 2) k) (hU : ¬ U (w.heap.size + 2) (w.heap.size + 1))
    (I : List α → World → Prop) (Ix : Code → List α → World → Prop) (hI : ∀ s A B, I s A → Keeps V A B → I s B) (hIx : ∀ c s A B, Ix c s A → Keeps (fun k => k < w.heap.size) A B → (∀ p, B.cell? p = A.cell? p) → Ix c s B)
    (h0 : I [] w) (a₁ : α → World → Act) (aw : α → World → World) (haw : ∀ x W, Keeps (fun _ => True) W (aw x W))
    (hassign : ∀ (l : Nat) (x : α) (W : World) (K : Act → World → Prop), K (a₁ x W) (aw x W) →
      assign.wpIn (F.inRound l) (n - 1 - 1) P (Exit.then K (fun _ _ _ => False)) { tmps := (ps.zip (encs x)).foldl (fun t (p, v) => t.setIfInBounds p v) a.tmps, defers := [] } W)
    (hbody : ∀ (l : Nat) (pre : List α) (x : α) (V0 W : World), I pre W → pre ++ [x] <+: xs → w.heap.size + 2 ≤ V0.heap.size → Keeps (fun k => k ≠ w.heap.size + 1) (aw x V0) W → (∀ p, W.cell? p = (aw x V0).cell? p) →
      body.wpIn (F.inRound l) (n - 1 - 1) P (roundEndX w.heap.size (U (w.heap.size + 2)) I Ix (pre ++ [x]) W) (a₁ x V0) W)
    (hdone : ∀ (W : World), I xs W → W.heap[w.heap.size]? = some (.deferred (some [])) → Q .normal { a with defers := { target := .collected w.heap.size, args := #[] } :: a.defers } W)
    (hstop : ∀ (c : Code) (pre : List α) (W : World), pre <+: xs → Ix c pre W → W.heap[w.heap.size]? = some (.deferred (some [])) → c.wpIn F n P Q { a with defers := { target := .collected w.heap.size, args := #[] } :: a.defers } W) :
    (Code.rangeFunc g ps assign body).wpIn F n P Q a w := by
  refine wpIn_rangeFunc fun fn hfn => ?_
  rw [hro]
  obtain ⟨r, hr⟩ : ∃ r : LoopState → Option Code → Loop, r = fun st pe => { state := st, pending := pe, fn := fn, tmps := a.tmps, params := ps, assign := assign, body := body, defers := w.heap.size } := ⟨_, rfl⟩
  obtain ⟨W1, hW1⟩ : ∃ W1, (w.alloc (.deferred (some []))).alloc (.loop (r .ready none)) = W1 := ⟨_, rfl⟩
  have hs1 : W1.heap.size = w.heap.size + 2 := by rw [← hW1]; simp
  have hR1 : Rec w.heap.size (r .ready none) W1 := by
    rw [← hW1]
    refine ⟨?_, (Below.heap_alloc _ _ _ (by simp)).trans (World.alloc_heap_new w _)⟩
    have := World.alloc_heap_new (w.alloc (.deferred (some []))) (.loop (r .ready none))
    rwa [World.size_alloc] at this
  have hk1 : Keeps V w W1 := by rw [← hW1]; exact ((Keeps.refl V w).alloc _).alloc _
  have hb1 : Below w0.heap.size w0 W1 := by
    rw [← hW1]; exact hb0.trans ((((Below.refl _ w).alloc (Nat.le_refl _) _).alloc (by simp) _).mono hb0.size)
  refine ⟨w.heap.size + 1, [{ target := .collected w.heap.size, args := #[] }], W1, { target := .fn (.func gf) lb, args := #[.func (.yield (w.heap.size + 1)) #[] #[]] }, W1, gf,
    #[.func (.yield (w.heap.size + 1)) #[] #[]] ++ lb, W1, ?_, ?_, ?_, ?_, fun _ => h1, ?_⟩
  · rw [← hW1, hr]; exact run_enterLoop_outer _ _ _ _ _
  · simp only [resolve, hg]
    simp [go_sem]
  · intro f' hf'; simp [Target.leads] at hf'; subst hf'; exact hFg
  · simp [invoke, go_sem, eg]
  refine (hseq (w.heap.size + 1) (fun pre W => I pre W ∧ Rec w.heap.size (r .ready none) W) (fun pre W => ∃ c, Ix c pre W ∧ Rec w.heap.size (r .done (some c)) W) W1 hb1
    (fun s A B hs hk => ⟨hI s A B hs.1 (hk.mono fun k hv _ => hs1 ▸ hVT k hv), hs.2.keep hk (fun k h => hs1 ▸ hTT k h)⟩)
    (fun s A B ⟨c, h1, h2⟩ hk hc => ⟨c, hIx _ _ _ _ h1 (hk.mono fun k hlt _ => by omega) hc, h2.keep hk (fun k h => by unfold Two at h; omega)⟩)
    ?_ ⟨hI _ _ _ h0 hk1, hR1⟩).mono ?_
  · rintro pre x V0 ⟨hi0, hrec0⟩ hpre
    have hy := run_yield (P := P) (args := encs x) hrec0.1 (by rw [hr]; exact hps x)
    have hk0 := haw x V0
    have hsz0 : w.heap.size + 2 ≤ V0.heap.size := by have := (Array.getElem?_eq_some_iff.1 hrec0.1).1; omega
    have hst : (r .ready none).state = .ready := by rw [hr]
    obtain ⟨B, hB⟩ : ∃ B : Loop, B = { r .ready none with state := .busy } := ⟨_, rfl⟩
    have hrec : Rec w.heap.size (r .ready none) (aw x V0) := hrec0.keep hk0 fun _ _ => trivial
    refine ⟨fn, _, assign, body, by rw [hy, hr], roundIn_of_wpIn hfn (hassign _ x V0 _ ⟨_, run_beginRound hrec.1 hst, ?_⟩)⟩
    rw [← hB]
    have hi : I pre (aw x V0) := hI _ _ _ hi0 (hk0.mono fun _ _ _ => trivial)
    have HB := hbody (w.heap.size + 1) pre x V0 ((aw x V0).putObj (w.heap.size + 1) (.loop B)) (hI _ _ _ hi ((Keeps.refl V _).putObj (hV _ (.inr rfl)) _)) hpre hsz0 ((Keeps.refl (fun k => k ≠ w.heap.size + 1) _).putObj (l := w.heap.size + 1) (by simp) _) (cell_putLoop hrec.1)
    obtain ⟨W, hW⟩ : ∃ W, aw x V0 = W := ⟨_, rfl⟩
    rw [hW] at hk0 hrec hi HB ⊢
    have hnV : ¬ V (w.heap.size + 1) := hV _ (.inr rfl)
    have hrb : Rec w.heap.size B (W.putObj (w.heap.size + 1) (.loop B)) := hrec.put B
    have hi2 : I pre (W.putObj (w.heap.size + 1) (.loop B)) := hI _ _ _ hi ((Keeps.refl V W).putObj hnV _)
    have hsz : w.heap.size + 2 ≤ W.heap.size := by have := (Array.getElem?_eq_some_iff.1 hrec.1).1; omega
    refine wpIn_mono HB ?_
    have fin : ∀ (j : Option Code) (W3 : World), Rec w.heap.size B W3 →
        (Instr.endRound (w.heap.size + 1) j).run P W3 = .ok (.bool j.isNone) (W3.putObj (w.heap.size + 1) (.loop (r (if j.isNone then .ready else .done) j))) ∧
        Rec w.heap.size (r (if j.isNone then .ready else .done) j) (W3.putObj (w.heap.size + 1) (.loop (r (if j.isNone then .ready else .done) j))) := fun j W3 h3 => by
      have := run_endRound (P := P) j h3.1
      rw [hB, hr] at this
      refine ⟨by rw [this, hr], h3.put _⟩
    have hX : ∀ {W3 : World} {o : Obj}, Keeps (fun k => w.heap.size + 2 ≤ k ∨ Two w.heap.size k) (W.putObj (w.heap.size + 1) (.loop B)) W3 → Keeps (fun k => W1.heap.size ≤ k) V0 (W3.putObj (w.heap.size + 1) o) := fun hk3 => by
      rw [hs1]
      refine (hk0.mono fun _ _ _ => trivial).trans ?_
      exact (((Keeps.refl (fun k => w.heap.size + 2 ≤ k) W).putObj (l := w.heap.size + 1) (by simp) _).trans (hk3.mono fun k h _ => .inl h)).putObj (l := w.heap.size + 1) (by simp) _
    intro e a3 W3 hp
    cases e with
    | normal =>
      obtain ⟨hk3, hi3⟩ := hp
      obtain ⟨hrun, hr3⟩ := fin none W3 (hrb.keep hk3 fun k h => .inr h)
      refine ⟨_, _, hrun, .inl ⟨rfl, ⟨hI _ _ _ hi3 ((Keeps.refl V W3).putObj hnV _), hr3⟩, ?_⟩⟩
      rw [hs1]
      refine (hk0.mono fun _ _ _ => trivial).trans ?_
      exact (((Keeps.refl _ W).putObj hU _).trans (hk3.mono fun k h _ => .inl h)).putObj hU _
    | ret =>
      obtain ⟨hk3, hi3⟩ := hp
      have hrb3 := hrb.keep hk3 fun k h => .inr h
      obtain ⟨hrun, hr3⟩ := fin (some .ret) W3 hrb3
      exact ⟨_, _, hrun, .inr ⟨rfl, ⟨.ret, hIx _ _ _ _ hi3 ((Keeps.refl (fun k => k < w.heap.size) W3).putObj (l := w.heap.size + 1) (by simp) _) (cell_putLoop hrb3.1), hr3⟩, hX hk3⟩⟩
    | exit id =>
      obtain ⟨hk3, hi3⟩ := hp
      have hrb3 := hrb.keep hk3 fun k h => .inr h
      obtain ⟨hrun, hr3⟩ := fin (some (.exit id)) W3 hrb3
      exact ⟨_, _, hrun, .inr ⟨rfl, ⟨.exit id, hIx _ _ _ _ hi3 ((Keeps.refl (fun k => k < w.heap.size) W3).putObj (l := w.heap.size + 1) (by simp) _) (cell_putLoop hrb3.1), hr3⟩, hX hk3⟩⟩
    | goto t =>
      obtain ⟨hk3, hi3⟩ := hp
      have hrb3 := hrb.keep hk3 fun k h => .inr h
      obtain ⟨hrun, hr3⟩ := fin (some (.goto t)) W3 hrb3
      exact ⟨_, _, hrun, .inr ⟨rfl, ⟨.goto t, hIx _ _ _ _ hi3 ((Keeps.refl (fun k => k < w.heap.size) W3).putObj (l := w.heap.size + 1) (by simp) _) (cell_putLoop hrb3.1), hr3⟩, hX hk3⟩⟩
    | panic ch => exact hp.elim
    | outgrown => exact hp.elim
  · have hnV : ¬ V (w.heap.size + 1) := hV _ (.inr rfl)
    rintro e W2 ⟨⟨v, rfl⟩, (⟨hi, hrec⟩ | ⟨pre, hpre, c, hi, hrec⟩)⟩
    · have hb : (r .ready none).state ≠ .busy := by rw [hr]; simp
      have := run_endLoop (P := P) hrec.1 hb
      refine ⟨none, _, by rw [this, hr], hdone _ (hI _ _ _ hi ((Keeps.refl V W2).putObj hnV _)) ((World.putObj_heap_other (by omega)).trans hrec.2)⟩
    · have hb : (r .done (some c)).state ≠ .busy := by rw [hr]; simp
      have := run_endLoop (P := P) hrec.1 hb
      refine ⟨some c, _, by rw [this, hr], hstop c pre _ hpre (hIx _ _ _ _ hi ((Keeps.refl (fun k => k < w.heap.size) W2).putObj (l := w.heap.size + 1) (by simp) _) (cell_putLoop hrec.1)) ((World.putObj_heap_other (by omega)).trans hrec.2)⟩
end Go.Proofs.Ytmabenffdpipmaa.Rf
