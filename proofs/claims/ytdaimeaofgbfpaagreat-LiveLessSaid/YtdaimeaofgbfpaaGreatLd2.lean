/-
 Lc2 Rc2 Ld2
-/
import Derived.Test.YtdaimeaofgbfpaaGreatZa2
import Derived.Test.YtdaimeaofgbfpaaGreatLb2
import Derived.RangeFuncBox
import Derived.Test.YtdaimeaofgbfpaaGreatTa2
set_option linter.unusedSimpArgs false
set_option linter.unusedVariables false
namespace Go.Proofs.YtdaimeaofgbfpaaGreat.Rf
open Go.RowKit
variable {F : Fence} {n : Nat} {P : Program}
def TellsX {α : Type} (F : Fence) (n : Nat) (P : Program) (g : Nat) (lb : Array Value) (encs : α → Array Value) (U T : Nat → Nat → Prop) (xs : List α) (w : World) : Prop :=
 ∀ (l : Nat) (J Jx : List α → World → Prop) (W : World), Below w.heap.size w W →
  (∀ s A B, J s A → Keeps (T W.heap.size) A B → J s B) →
  (∀ s A B, Jx s A → Keeps (fun k => k < W.heap.size) A B → (∀ p, B.cell? p = A.cell? p) → Jx s B) →
  (∀ pre x W1, J pre W1 → pre ++ [x] <+: xs → YieldAt F (n - 1) P l (encs x) W1 fun e W' =>
   (e = .returned (.bool true) ∧ J (pre ++ [x]) W' ∧ Keeps (U W.heap.size) W1 W') ∨ (e = .returned (.bool false) ∧ Jx (pre ++ [x]) W' ∧ Keeps (fun k => W.heap.size ≤ k) W1 W')) →
  J [] W →
  CallsIn F n P g (#[.func (.yield l) #[] #[]] ++ lb) W fun e W' => (∃ v, e = .returned v) ∧ (J xs W' ∨ ∃ pre, pre <+: xs ∧ Jx pre W')
def roundEndX {α : Type} (d : Nat) (K : Nat → Prop) (I : List α → World → Prop) (Ix : Code → List α → World → Prop) (xs : List α) (W : World) : Exit → Act → World → Prop
 | .normal, _, W' => Keeps (fun k => K k ∨ Two d k) W W' ∧ I xs W'
 | .ret, _, W' => Keeps (fun k => d + 2 ≤ k ∨ Two d k) W W' ∧ Ix .ret xs W'
 | .exit id, _, W' => Keeps (fun k => d + 2 ≤ k ∨ Two d k) W W' ∧ Ix (.exit id) xs W'
 | .goto t, _, W' => Keeps (fun k => d + 2 ≤ k ∨ Two d k) W W' ∧ Ix (.goto t) xs W'
 | .panic _, _, _ => False
 | .outgrown, _, _ => False
theorem wpIn_rangeXH {α : Type} {g : Operand} {ps : Array Tmp} {assign body : Code} {Q : Exit → Act → World → Prop} {a : Act} {w : World}
  (hro : F.round = none) (h1 : 1 ≤ n) {gf : Nat} {lb : Array Value} (hg : a.eval g = .func (.func gf) #[] lb) (hFg : F.fn gf) (eg : ∀ args w, (callFunc gf args).run P w = .ok (.enter gf args) w)
  {encs : α → Array Value} {U T : Nat → Nat → Prop} {xs : List α} {w0 : World} (hseq : TellsX F (n - 1) P gf lb encs U T xs w0) (hb0 : Below w0.heap.size w0 w) (hps : ∀ x, (encs x).size = ps.size)
  (V : Nat → Prop) (hV : ∀ k, Two w.heap.size k → ¬ V k) (hVT : ∀ k, V k → T (w.heap.size + 2) k) (hTT : ∀ k, Two w.heap.size k → T (w.heap.size + 2) k) (hU : ¬ U (w.heap.size + 2) (w.heap.size + 1))
  (I : List α → World → Prop) (Ix : Code → List α → World → Prop) (hI : ∀ s A B, I s A → Keeps V A B → I s B) (hIx : ∀ c s A B, Ix c s A → Keeps (fun k => k < w.heap.size) A B → (∀ p, B.cell? p = A.cell? p) → Ix c s B)
  (h0 : I [] w) (a₁ : α → World → Act) (aw : α → World → World) (haw : ∀ x W, Keeps (fun _ => True) W (aw x W))
  (hassign : ∀ (l : Nat) (x : α) (W : World) (K : Act → World → Prop), K (a₁ x W) (aw x W) →
   assign.wpIn (F.inRound l) (n - 1 - 1) P (Exit.then K (fun _ _ _ => False)) { tmps := (ps.zip (encs x)).foldl (fun t (p, v) => t.setIfInBounds p v) a.tmps, defers := [] } W)
  (hbody : ∀ (l : Nat) (pre : List α) (x : α) (V0 W : World), l = w.heap.size + 1 → (∃ r, W.heap[l]? = some (.loop r)) → I pre V0 → I pre W → pre ++ [x] <+: xs → w.heap.size + 2 ≤ V0.heap.size → Keeps (fun k => k ≠ w.heap.size + 1) (aw x V0) W → (∀ p, W.cell? p = (aw x V0).cell? p) →
   body.wpIn (F.inRound l) (n - 1 - 1) P (roundEndX w.heap.size (U (w.heap.size + 2)) I Ix (pre ++ [x]) W) (a₁ x V0) W)
  (hdone : ∀ (W : World), I xs W → W.heap[w.heap.size]? = some (.deferred (some [])) → Q .normal { a with defers := { target := .collected w.heap.size, args := #[] } :: a.defers } W)
  (hstop : ∀ (c : Code) (pre : List α) (W : World), pre <+: xs → Ix c pre W → W.heap[w.heap.size]? = some (.deferred (some [])) → c.wpIn F n P Q { a with defers := { target := .collected w.heap.size, args := #[] } :: a.defers } W) :
  (Code.rangeFunc g ps assign body).wpIn F n P Q a w := by
 refine wpIn_rangeFunc fun fn hfn => ?_
 rw [hro]
 obtain ⟨r, hr⟩ : ∃ r : LoopState → Option Code → Loop, r = fun st pe => { state := st, pending := pe, fn := fn, tmps := a.tmps, params := ps, assign := assign, body := body, defers := w.heap.size } := ⟨_, rfl⟩
 obtain ⟨W1, hW1⟩ : ∃ W1, (w.alloc (.deferred (some []))).alloc (.loop (r .ready none)) = W1 := ⟨_, rfl⟩
 have hs1 : W1.heap.size = w.heap.size + 2 := by rw [← hW1]; simp
 have hR1 : Rec w.heap.size (r .ready none) W1 := by
  rw [← hW1]
  refine ⟨?_, (Below.heap_alloc _ _ _ (by simp)).trans (World.alloc_heap_new w _)⟩
  have := World.alloc_heap_new (w.alloc (.deferred (some []))) (.loop (r .ready none))
  rwa [World.size_alloc] at this
 have hk1 : Keeps V w W1 := by rw [← hW1]; exact ((Keeps.refl V w).alloc _).alloc _
 have hb1 : Below w0.heap.size w0 W1 := by
  rw [← hW1]; exact hb0.trans ((((Below.refl _ w).alloc (Nat.le_refl _) _).alloc (by simp) _).mono hb0.size)
 refine ⟨w.heap.size + 1, [{ target := .collected w.heap.size, args := #[] }], W1, { target := .fn (.func gf) lb, args := #[.func (.yield (w.heap.size + 1)) #[] #[]] }, W1, gf,
  #[.func (.yield (w.heap.size + 1)) #[] #[]] ++ lb, W1, ?_, ?_, ?_, ?_, fun _ => h1, ?_⟩
 ·rw [← hW1, hr]; exact run_enterLoop_outer _ _ _ _ _
 ·simp only [resolve, hg]
  simp [go_sem]
 ·intro f' hf'; simp [Target.leads] at hf'; subst hf'; exact hFg
 ·simp [invoke, go_sem, eg]
 refine (hseq (w.heap.size + 1) (fun pre W => I pre W ∧ Rec w.heap.size (r .ready none) W) (fun pre W => ∃ c, Ix c pre W ∧ Rec w.heap.size (r .done (some c)) W) W1 hb1
  (fun s A B hs hk => ⟨hI s A B hs.1 (hk.mono fun k hv _ => hs1 ▸ hVT k hv), hs.2.keep hk (fun k h => hs1 ▸ hTT k h)⟩)
  (fun s A B ⟨c, h1, h2⟩ hk hc => ⟨c, hIx _ _ _ _ h1 (hk.mono fun k hlt _ => by omega) hc, h2.keep hk (fun k h => by unfold Two at h; omega)⟩)
  ?_ ⟨hI _ _ _ h0 hk1, hR1⟩).mono ?_
 ·rintro pre x V0 ⟨hi0, hrec0⟩ hpre
  have hy := run_yield (P := P) (args := encs x) hrec0.1 (by rw [hr]; exact hps x)
  have hk0 := haw x V0
  have hsz0 : w.heap.size + 2 ≤ V0.heap.size := by have := (Array.getElem?_eq_some_iff.1 hrec0.1).1; omega
  have hst : (r .ready none).state = .ready := by rw [hr]
  obtain ⟨B, hB⟩ : ∃ B : Loop, B = { r .ready none with state := .busy } := ⟨_, rfl⟩
  have hrec : Rec w.heap.size (r .ready none) (aw x V0) := hrec0.keep hk0 fun _ _ => trivial
  refine ⟨fn, _, assign, body, by rw [hy, hr], roundIn_of_wpIn hfn (hassign _ x V0 _ ⟨_, run_beginRound hrec.1 hst, ?_⟩)⟩
  rw [← hB]
  have hi : I pre (aw x V0) := hI _ _ _ hi0 (hk0.mono fun _ _ _ => trivial)
  have HB := hbody (w.heap.size + 1) pre x V0 ((aw x V0).putObj (w.heap.size + 1) (.loop B)) rfl ⟨_, (hrec.put B).1⟩ hi0 (hI _ _ _ hi ((Keeps.refl V _).putObj (hV _ (.inr rfl)) _)) hpre hsz0 ((Keeps.refl (fun k => k ≠ w.heap.size + 1) _).putObj (l := w.heap.size + 1) (by simp) _) (cell_putLoop hrec.1)
  obtain ⟨W, hW⟩ : ∃ W, aw x V0 = W := ⟨_, rfl⟩
  rw [hW] at hk0 hrec hi HB ⊢
  have hnV : ¬ V (w.heap.size + 1) := hV _ (.inr rfl)
  have hrb : Rec w.heap.size B (W.putObj (w.heap.size + 1) (.loop B)) := hrec.put B
  have hi2 : I pre (W.putObj (w.heap.size + 1) (.loop B)) := hI _ _ _ hi ((Keeps.refl V W).putObj hnV _)
  have hsz : w.heap.size + 2 ≤ W.heap.size := by have := (Array.getElem?_eq_some_iff.1 hrec.1).1; omega
  refine wpIn_mono HB ?_
  have fin : ∀ (j : Option Code) (W3 : World), Rec w.heap.size B W3 →
    (Instr.endRound (w.heap.size + 1) j).run P W3 = .ok (.bool j.isNone) (W3.putObj (w.heap.size + 1) (.loop (r (if j.isNone then .ready else .done) j))) ∧
    Rec w.heap.size (r (if j.isNone then .ready else .done) j) (W3.putObj (w.heap.size + 1) (.loop (r (if j.isNone then .ready else .done) j))) := fun j W3 h3 => by
   have := run_endRound (P := P) j h3.1
   rw [hB, hr] at this
   refine ⟨by rw [this, hr], h3.put _⟩
  have hX : ∀ {W3 : World} {o : Obj}, Keeps (fun k => w.heap.size + 2 ≤ k ∨ Two w.heap.size k) (W.putObj (w.heap.size + 1) (.loop B)) W3 → Keeps (fun k => W1.heap.size ≤ k) V0 (W3.putObj (w.heap.size + 1) o) := fun hk3 => by
   rw [hs1]
   refine (hk0.mono fun _ _ _ => trivial).trans ?_
   exact (((Keeps.refl (fun k => w.heap.size + 2 ≤ k) W).putObj (l := w.heap.size + 1) (by simp) _).trans (hk3.mono fun k h _ => .inl h)).putObj (l := w.heap.size + 1) (by simp) _
  intro e a3 W3 hp
  cases e with
  | normal =>
   obtain ⟨hk3, hi3⟩ := hp
   obtain ⟨hrun, hr3⟩ := fin none W3 (hrb.keep hk3 fun k h => .inr h)
   refine ⟨_, _, hrun, .inl ⟨rfl, ⟨hI _ _ _ hi3 ((Keeps.refl V W3).putObj hnV _), hr3⟩, ?_⟩⟩
   rw [hs1]
   refine (hk0.mono fun _ _ _ => trivial).trans ?_
   exact (((Keeps.refl _ W).putObj hU _).trans (hk3.mono fun k h _ => .inl h)).putObj hU _
  | ret =>
   obtain ⟨hk3, hi3⟩ := hp
   have hrb3 := hrb.keep hk3 fun k h => .inr h
   obtain ⟨hrun, hr3⟩ := fin (some .ret) W3 hrb3
   exact ⟨_, _, hrun, .inr ⟨rfl, ⟨.ret, hIx _ _ _ _ hi3 ((Keeps.refl (fun k => k < w.heap.size) W3).putObj (l := w.heap.size + 1) (by simp) _) (cell_putLoop hrb3.1), hr3⟩, hX hk3⟩⟩
  | exit id =>
   obtain ⟨hk3, hi3⟩ := hp
   have hrb3 := hrb.keep hk3 fun k h => .inr h
   obtain ⟨hrun, hr3⟩ := fin (some (.exit id)) W3 hrb3
   exact ⟨_, _, hrun, .inr ⟨rfl, ⟨.exit id, hIx _ _ _ _ hi3 ((Keeps.refl (fun k => k < w.heap.size) W3).putObj (l := w.heap.size + 1) (by simp) _) (cell_putLoop hrb3.1), hr3⟩, hX hk3⟩⟩
  | goto t =>
   obtain ⟨hk3, hi3⟩ := hp
   have hrb3 := hrb.keep hk3 fun k h => .inr h
   obtain ⟨hrun, hr3⟩ := fin (some (.goto t)) W3 hrb3
   exact ⟨_, _, hrun, .inr ⟨rfl, ⟨.goto t, hIx _ _ _ _ hi3 ((Keeps.refl (fun k => k < w.heap.size) W3).putObj (l := w.heap.size + 1) (by simp) _) (cell_putLoop hrb3.1), hr3⟩, hX hk3⟩⟩
  | panic ch => exact hp.elim
  | outgrown => exact hp.elim
 ·have hnV : ¬ V (w.heap.size + 1) := hV _ (.inr rfl)
  rintro e W2 ⟨⟨v, rfl⟩, (⟨hi, hrec⟩ | ⟨pre, hpre, c, hi, hrec⟩)⟩
  ·have hb : (r .ready none).state ≠ .busy := by rw [hr]; simp
   have := run_endLoop (P := P) hrec.1 hb
   refine ⟨none, _, by rw [this, hr], hdone _ (hI _ _ _ hi ((Keeps.refl V W2).putObj hnV _)) ((World.putObj_heap_other (by omega)).trans hrec.2)⟩
  ·have hb : (r .done (some c)).state ≠ .busy := by rw [hr]; simp
   have := run_endLoop (P := P) hrec.1 hb
   refine ⟨some c, _, by rw [this, hr], hstop c pre _ hpre (hIx _ _ _ _ hi ((Keeps.refl (fun k => k < w.heap.size) W2).putObj (l := w.heap.size + 1) (by simp) _) (cell_putLoop hrec.1)) ((World.putObj_heap_other (by omega)).trans hrec.2)⟩
theorem wpIn_rangeX {α : Type} {g : Operand} {ps : Array Tmp} {assign body : Code} {Q : Exit → Act → World → Prop} {a : Act} {w : World}
  (hro : F.round = none) (h1 : 1 ≤ n) {gf : Nat} {lb : Array Value} (hg : a.eval g = .func (.func gf) #[] lb) (hFg : F.fn gf) (eg : ∀ args w, (callFunc gf args).run P w = .ok (.enter gf args) w)
  {encs : α → Array Value} {U T : Nat → Nat → Prop} {xs : List α} {w0 : World} (hseq : TellsX F (n - 1) P gf lb encs U T xs w0) (hb0 : Below w0.heap.size w0 w) (hps : ∀ x, (encs x).size = ps.size)
  (V : Nat → Prop) (hV : ∀ k, Two w.heap.size k → ¬ V k) (hVT : ∀ k, V k → T (w.heap.size + 2) k) (hTT : ∀ k, Two w.heap.size k → T (w.heap.size + 2) k) (hU : ¬ U (w.heap.size + 2) (w.heap.size + 1))
  (I : List α → World → Prop) (Ix : Code → List α → World → Prop) (hI : ∀ s A B, I s A → Keeps V A B → I s B) (hIx : ∀ c s A B, Ix c s A → Keeps (fun k => k < w.heap.size) A B → (∀ p, B.cell? p = A.cell? p) → Ix c s B)
  (h0 : I [] w) (a₁ : α → World → Act) (aw : α → World → World) (haw : ∀ x W, Keeps (fun _ => True) W (aw x W))
  (hassign : ∀ (l : Nat) (x : α) (W : World) (K : Act → World → Prop), K (a₁ x W) (aw x W) →
   assign.wpIn (F.inRound l) (n - 1 - 1) P (Exit.then K (fun _ _ _ => False)) { tmps := (ps.zip (encs x)).foldl (fun t (p, v) => t.setIfInBounds p v) a.tmps, defers := [] } W)
  (hbody : ∀ (l : Nat) (pre : List α) (x : α) (V0 W : World), I pre W → pre ++ [x] <+: xs → w.heap.size + 2 ≤ V0.heap.size → Keeps (fun k => k ≠ w.heap.size + 1) (aw x V0) W → (∀ p, W.cell? p = (aw x V0).cell? p) →
   body.wpIn (F.inRound l) (n - 1 - 1) P (roundEndX w.heap.size (U (w.heap.size + 2)) I Ix (pre ++ [x]) W) (a₁ x V0) W)
  (hdone : ∀ (W : World), I xs W → W.heap[w.heap.size]? = some (.deferred (some [])) → Q .normal { a with defers := { target := .collected w.heap.size, args := #[] } :: a.defers } W)
  (hstop : ∀ (c : Code) (pre : List α) (W : World), pre <+: xs → Ix c pre W → W.heap[w.heap.size]? = some (.deferred (some [])) → c.wpIn F n P Q { a with defers := { target := .collected w.heap.size, args := #[] } :: a.defers } W) :
  (Code.rangeFunc g ps assign body).wpIn F n P Q a w := by
 exact wpIn_rangeXH hro h1 hg hFg eg hseq hb0 hps V hV hVT hTT hU I Ix hI hIx h0 a₁ aw haw hassign (fun l pre x V0 W _ _ _ => hbody l pre x V0 W) hdone hstop
end Go.Proofs.YtdaimeaofgbfpaaGreat.Rf
namespace Go.Proofs.YtdaimeaofgbfpaaGreat.By
open Go.RowKit
theorem arrN_size (N : Nat) (f : Nat → Value) : (arrN N f).size = N := by simp [arrN]
theorem arrN_set {N : Nat} (f : Nat → Value) (i : Nat) (u : Value) : (arrN N f).setIfInBounds i u = arrN N (fun j => if j = i then u else f j) := by
 apply Array.ext
 ·simp [arrN]
 ·intro j h1 h2
  have hj : j < N := by simpa [arrN] using h2
  rw [Array.getElem_setIfInBounds (by rw [arrN_size]; exact hj)]
  by_cases e : i = j
  ·subst e; simp [arrN]
  ·have e2 : ¬ j = i := fun h => e h.symm
   simp [arrN, e, e2]
theorem arrN_rep (N : Nat) (u : Value) : Array.replicate N u = arrN N fun _ => u := by
 apply Array.ext
 ·simp [arrN]
 ·intro j h1 h2; simp [arrN]
end Go.Proofs.YtdaimeaofgbfpaaGreat.By
namespace Go.Proofs.YtdaimeaofgbfpaaGreat.Bo
open Go.RowKit Go.Maps
open Mem Rf
def marks (f : Nat → Bool) (n : Nat) : List Nat := (List.range n).filter f
theorem marks_take {f : Nat → Bool} {k : Nat} (h : f k = true) : marks f (k + 1) = marks f k ++ [k] := by
 unfold marks; rw [List.range_succ, List.filter_append]; simp [h]
theorem marks_skip {f : Nat → Bool} {k : Nat} (h : f k = false) : marks f (k + 1) = marks f k := by
 unfold marks; rw [List.range_succ, List.filter_append]; simp [h]
theorem marks_pre {f : Nat → Bool} {n : Nat} : ∀ {k : Nat}, k ≤ n → marks f k <+: marks f n := by
 intro k hk
 induction n with
 | zero => have : k = 0 := by omega
           subst this; exact List.prefix_refl _
 | succ n ih =>
  by_cases h : k = n + 1
  ·subst h; exact List.prefix_refl _
  ·refine (ih (by omega)).trans ?_
   cases h1 : f n with
   | true => rw [marks_take h1]; exact List.prefix_append _ _
   | false => rw [marks_skip h1]; exact List.prefix_refl _
theorem mem_marks {f : Nat → Bool} {n k : Nat} : k ∈ marks f n ↔ k < n ∧ f k = true := by
 unfold marks; simp
theorem marks_of {f : Nat → Bool} {n : Nat} {pre : List Nat} {x : Nat} (h : pre ++ [x] <+: marks f n) : x < n ∧ f x = true :=
 mem_marks.1 (h.subset (by simp))
def itE (k : Nat) : Array Value := #[.int .i64 (k : Int)]
set_option maxRecDepth 100000 in
theorem marked_it (w : World) (A : Option Addr) (n c : Nat) :
  Calls Tryz.prog 48 #[.slice A n c] w fun e w' => e = .returned (.func (.func 92) #[] #[.pointer (some ⟨w.heap.size, 0, none⟩)]) ∧ w' = w.alloc (.cells #[.slice A n c] 38) := by
 go_enter Tryz.func48, Tryz.ntmps48
 go_wp2
 go_ret
 exact ⟨rfl, rfl⟩
set_option maxRecDepth 100000 in
set_option maxHeartbeats 4000000 in
theorem marked1_in (q l Bg B : Nat) (A : Option Addr) (n c : Nat) (f : Nat → Bool) (hn : n ≤ 1000) (J Jx : List Nat → World → Prop) (U : Nat → Prop) (hU : U Bg) (hUB : 0 < n → ∀ ad, A = some ad → U ad.block) (W : World)
  (hY : ∀ pre x W1, J pre W1 → pre ++ [x] <+: marks f n → YieldAt Fence.wide (q - 1) Tryz.prog l (itE x) W1 fun e W' =>
   (e = .returned (.bool true) ∧ J (pre ++ [x]) W' ∧ Keeps U W1 W') ∨ (e = .returned (.bool false) ∧ Jx (pre ++ [x]) W'))
  (cB : W.cell? ⟨Bg, 0, none⟩ = some (.slice A n c)) (hO : Wd 1 encB W B A n c ((List.range n).map f)) (hB : B ≤ W.heap.size) (h0 : J [] W) :
  CallsIn Fence.wide q Tryz.prog 92 #[.func (.yield l) #[] #[], .pointer (some ⟨Bg, 0, none⟩)] W fun e W' => (∃ v, e = .returned v) ∧
   (J (marks f n) W' ∨ ∃ pre, pre <+: marks f n ∧ Jx pre W') := by
 have h0' : J (marks f 0) W := h0
 have HY := Hd hY
 have HC := Hd (show ∀ X, Keeps U W X → ∀ k, k < n → ∃ ad, A = some ad ∧ X.cell? (ad.add k) = some (.bool (f k)) from fun X h k hk => by
  obtain ⟨ad, e, _, hc⟩ := hO.2.2.2.2 k (f k) (by rw [List.getElem?_map, List.getElem?_range hk]; rfl)
  have h9 := hc 0 _ rfl
  rw [Nat.mul_one] at h9
  exact ⟨ad, e, by rw [show (ad.add k).add 0 = ad.add k from by unfold Addr.add; simp] at h9; exact h.cell (by rw [add_block]; exact hUB (by omega) ad e) h9⟩)
 clear hY hO h0 hUB
 refine callsIn_of_wp Tryz.func92 rfl trivial ?_ rfl
 simp only [Tryz.ntmps92, List.size_toArray, List.length_cons, List.length_nil, Nat.reduceAdd, Nat.reduceSub, Array.replicate_succ, Array.replicate_zero, List.push_toArray, List.append_toArray, List.nil_append, List.cons_append]
 gi_wp2
 gi_loopw [7] (fun i wr => ∃ k : Nat, k ≤ n ∧ i = .int .i64 k ∧ J (marks f k) wr ∧ Keeps U W wr) (fun i _ => n - (intOf i).toNat)
 case atStart => exact ⟨0, Nat.zero_le _, rfl, h0', Keeps.refl _ _⟩
 case round =>
  obtain ⟨k, hk, rfl, hJ, hK⟩ := hrel
  by_cases hlt : k < n
  ·have hkI : (k : Int) < (n : Int) := by omega
   obtain ⟨ad, rfl, c0⟩ := HC.out wr hK k hlt
   have HK0 := Hd hK
   have HMT := Hd (@marks_take f k)
   have HMS := Hd (@marks_skip f k)
   have HPR := Hd (show marks f (k + 1) <+: marks f n from marks_pre hlt)
   obtain ⟨b, hb⟩ : ∃ b, f k = b := ⟨_, rfl⟩
   rw [hb] at c0 HMT HMS
   cases b with
   | false =>
    have HT := Hd (HMS.out rfl)
    have HJ0 := Hd hJ
    clear hJ hK hb
    gi_wp2
    refine ⟨fun _ h => (by cases h), ?_⟩
    gi_wp2
    go_roundw
    case rel => exact ⟨k + 1, by omega, by go_num, by rw [HT.out]; exact HJ0.out, HK0.out⟩
    case measure => simp [intOf]; omega
   | true =>
    have HT := Hd (HMT.out rfl)
    have HP2 := Hd (show marks f k ++ [k] <+: marks f n by rw [← HT.out]; exact HPR.out)
    obtain ⟨fnI, tmps, assign, body, hy, hR⟩ := HY.out _ k wr hJ HP2.out
    have HR := Hd hR
    unfold itE at hy
    clear hR hJ hK hb
    gi_wp2
    refine ⟨fun h => (by cases h), HR.out.mono ?_⟩
    rintro e W3 (⟨rfl, hJ4, hk4⟩ | ⟨rfl, hJx4⟩)
    ·gi_wp2
     go_roundw
     case rel => exact ⟨k + 1, by omega, by go_num, by rw [HT.out]; exact hJ4, HK0.out.trans hk4⟩
     case measure => simp [intOf]; omega
    ·gi_wp2
     refine bodyPost_ret (results_none rfl _ _ _) rfl ?_
     exact ⟨⟨_, rfl⟩, .inr ⟨_, HP2.out, hJx4⟩⟩
  ·obtain rfl : k = n := by omega
   gi_wp2
   go_end0
   exact ⟨⟨_, rfl⟩, .inl hJ⟩
theorem marked_tells (q Bg B : Nat) (A : Option Addr) (n c : Nat) (f : Nat → Bool) (hn : n ≤ 1000) (U : Nat → Prop) (hU : U Bg) (hUB : 0 < n → ∀ ad, A = some ad → U ad.block) (w : World) (hUw : ∀ k, U k → k < w.heap.size)
  (cB : w.cell? ⟨Bg, 0, none⟩ = some (.slice A n c)) (hO : Wd 1 encB w B A n c ((List.range n).map f)) (hB : B ≤ w.heap.size) :
  TellsX Fence.wide q Tryz.prog 92 #[.pointer (some ⟨Bg, 0, none⟩)] itE (fun _ k => U k) (fun _ _ => True) (marks f n) w := by
 intro l J Jx W hb hJ hJx hY h0
 have hK : Keeps U w W := Keeps.of_below hb (fun k hk _ => hUw k hk)
 exact marked1_in q l Bg B A n c f hn J Jx U hU hUB W
  (fun pre x W1 h1 h2 => (hY pre x W1 h1 h2).mono fun e W' h => h.elim (fun h => .inl h) (fun h => .inr ⟨h.1, h.2.1⟩))
  (hK.cell hU cB) (⟨hO.1, hO.2.1, hO.2.2.1, hO.2.2.2.1, fun i x hi => by
   obtain ⟨ad, e, hb9, hc⟩ := hO.2.2.2.2 i x hi
   exact ⟨ad, e, hb9, fun j u hu => hK.cell (by rw [add_block, add_block]; exact hUB (by have h8 := (List.getElem?_eq_some_iff.1 hi).1; rw [hO.1] at h8; omega) ad e) (hc j u hu)⟩⟩) (Nat.le_trans hB hK.size) h0
theorem wd_blk {α : Type} {k : Nat} {enc : α → List Value} {w : World} {g : Nat} {t : TypeId} {cs : Array Value} {l : List α} (h : Blk w g t cs) (hk : ∀ x, (enc x).length = k) (hcs : cs = (l.flatMap enc).toArray) (hl : l.length ≤ maxLen) :
  Wd k enc w w.heap.size (some ⟨g, 0, none⟩) l.length l.length l :=
 ⟨rfl, Nat.le_refl _, hl, (fun e => by cases e), fun i x hi => ⟨_, rfl, h.lt, fun j u hu => by
  rw [add_twice, add_plain, Nat.zero_add, h.cell, hcs, List.getElem?_toArray]
  exact flat_at hk l i j x u hi hu⟩⟩
def twoC (a : Nat) : List By.In5 := match a with
 | 0 => [(17, 1, 0, 0, 0), (20, 0, 1, 0, 0), (21, 0, 0, 0, 0), (24, 0, 0, 0, 0)]
 | 1 => [(24, 0, 0, 0, 0)]
 | 2 => [(24, 0, 0, 0, 0)]
 | _ => [(19, 0, 0, 0, 0), (24, 0, 0, 0, 0)]
def twoP (N : Nat) : Pgm := ⟨some ⟨N + 16, 0, none⟩, 4, 4, [⟨0, 0, ⟨#[109, 97, 105, 110]⟩, ⟨0, (some ⟨N + 1, 0, none⟩, 2, 2), 0, false, 3, 4, (none, 0, 0), (some ⟨N + 2, 0, none⟩, 4, 4), (some ⟨N + 3, 0, none⟩, 2, 2)⟩, (some ⟨N + 4, 0, none⟩, 4, 4), [1, -1, 2, -1]⟩,
  ⟨0, 1, ⟨#[102]⟩, ⟨0, (none, 0, 0), 10, true, 0, 0, (none, 0, 0), (some ⟨N + 6, 0, none⟩, 1, 1), (none, 0, 0)⟩, (some ⟨N + 7, 0, none⟩, 1, 1), [-1]⟩,
  ⟨0, 2, ⟨#[103]⟩, ⟨0, (none, 0, 0), 70, false, 0, 0, (none, 0, 0), (some ⟨N + 9, 0, none⟩, 1, 1), (none, 0, 0)⟩, (some ⟨N + 10, 0, none⟩, 1, 1), [-1]⟩,
  ⟨0, 3, ⟨#[104]⟩, ⟨0, (none, 0, 0), 0, false, 0, 0, (none, 0, 0), (some ⟨N + 12, 0, none⟩, 2, 2), (some ⟨N + 13, 0, none⟩, 1, 1)⟩, (some ⟨N + 14, 0, none⟩, 2, 2), [3, -1]⟩], none, 0, 0, [], 0, twoC⟩
theorem two_read {W : World} {N : Nat} (hF : Blk W (N + 16) 51 (((twoP N).fs.flatMap encGf).toArray))
  (hc0 : Blk W (N + 2) 53 #[.int .i64 (17), .int .i64 (1), .int .i64 (0), .int .i64 (0), .int .i64 (0), .int .i64 (20), .int .i64 (0), .int .i64 (1), .int .i64 (0), .int .i64 (0), .int .i64 (21), .int .i64 (0), .int .i64 (0), .int .i64 (0), .int .i64 (0), .int .i64 (24), .int .i64 (0), .int .i64 (0), .int .i64 (0), .int .i64 (0)]) (hr0 : Blk W (N + 4) 3 #[.int .i64 (1), .int .i64 (-1), .int .i64 (2), .int .i64 (-1)])
  (hc1 : Blk W (N + 6) 53 #[.int .i64 (24), .int .i64 (0), .int .i64 (0), .int .i64 (0), .int .i64 (0)]) (hr1 : Blk W (N + 7) 3 #[.int .i64 (-1)])
  (hc2 : Blk W (N + 9) 53 #[.int .i64 (24), .int .i64 (0), .int .i64 (0), .int .i64 (0), .int .i64 (0)]) (hr2 : Blk W (N + 10) 3 #[.int .i64 (-1)])
  (hc3 : Blk W (N + 12) 53 #[.int .i64 (19), .int .i64 (0), .int .i64 (0), .int .i64 (0), .int .i64 (0), .int .i64 (24), .int .i64 (0), .int .i64 (0), .int .i64 (0), .int .i64 (0)]) (hr3 : Blk W (N + 14) 3 #[.int .i64 (3), .int .i64 (-1)])
  : PgR W (twoP N) := by
 refine ⟨wd_blk hF encGf_len rfl (by unfold twoP maxLen; simp), Wd.nil, fun a ha => ?_, fun a ha => ?_, by unfold twoP; simp⟩
 ·have ha : a < 4 := ha
  have hb : ∀ k, -9223372036854775808 ≤ (By.inAt (twoC a) k).1 ∧ (By.inAt (twoC a) k).1 ≤ 9223372036854775807 := by
   intro k
   have h0 : (By.inAt (twoC a) k) ∈ (twoC a) ∨ (By.inAt (twoC a) k).1 = 0 := by
    unfold By.inAt
    rw [List.getD_eq_getElem?_getD]
    cases h : (twoC a)[k]? with
    | none => right; rfl
    | some x => left; exact List.mem_of_getElem? h
   have h1 : ∀ x ∈ twoC a, 0 ≤ x.1 ∧ x.1 ≤ 100 := by
    have : a = 0 ∨ a = 1 ∨ a = 2 ∨ a = 3 := by omega
    rcases this with rfl | rfl | rfl | rfl <;> decide
   rcases h0 with h0 | h0
   ·have := h1 _ h0; omega
   ·omega
  have : a = 0 ∨ a = 1 ∨ a = 2 ∨ a = 3 := by omega
  rcases this with rfl | rfl | rfl | rfl
  ·exact ⟨wd_blk (k := 5) (enc := By.encIn) (l := twoC 0) hc0 (fun _ => rfl) rfl (by unfold maxLen; decide), wd_blk (k := 1) (enc := encI) (l := [1, -1, 2, -1]) hr0 (fun _ => rfl) rfl (by unfold maxLen; simp), by unfold twoP gfAt; simp, hb⟩
  ·exact ⟨wd_blk (k := 5) (enc := By.encIn) (l := twoC 1) hc1 (fun _ => rfl) rfl (by unfold maxLen; decide), wd_blk (k := 1) (enc := encI) (l := [-1]) hr1 (fun _ => rfl) rfl (by unfold maxLen; simp), by unfold twoP gfAt; simp, hb⟩
  ·exact ⟨wd_blk (k := 5) (enc := By.encIn) (l := twoC 2) hc2 (fun _ => rfl) rfl (by unfold maxLen; decide), wd_blk (k := 1) (enc := encI) (l := [-1]) hr2 (fun _ => rfl) rfl (by unfold maxLen; simp), by unfold twoP gfAt; simp, hb⟩
  ·exact ⟨wd_blk (k := 5) (enc := By.encIn) (l := twoC 3) hc3 (fun _ => rfl) rfl (by unfold maxLen; decide), wd_blk (k := 1) (enc := encI) (l := [3, -1]) hr3 (fun _ => rfl) rfl (by unfold maxLen; simp), by unfold twoP gfAt; simp, hb⟩
 ·exact absurd ha (by unfold twoP; simp)
set_option maxRecDepth 100000 in
set_option maxHeartbeats 8000000 in
theorem two25_any (w : World) : Calls Tryz.prog 37 #[] w fun e w' => e = .returned (pgV (twoP w.heap.size)) ∧ PgR w' (twoP w.heap.size) ∧ Below w.heap.size w w' := by
 have HRD := Hd (fun W => @two_read W w.heap.size)
 go_enter Tryz.func37, Tryz.ntmps37
 go_wp2_with fail
 refine bodyPost_ret (v := pgV (twoP w.heap.size)) (by simp [results, Tryz.results37, go_sem, pgV, twoP]) rfl ⟨rfl, ?_, ?_⟩
 ·apply HRD.out
  all_goals (repeat' (first | exact By.Blk.at_ _ _ (by (try simp only [World.size_alloc]); (first | done | omega)) | refine Blk.alloc ?_ _))
 ·repeat' (first | exact Below.refl _ _ | refine Below.alloc ?_ (by (try simp only [World.size_alloc]); (first | done | omega)) _)
end Go.Proofs.YtdaimeaofgbfpaaGreat.Bo
namespace Go.Proofs.YtdaimeaofgbfpaaGreat.Bo
open Go.RowKit Go.Maps
open Mem Rf By
attribute [local go_sem] Oper.semAt_some
theorem rows_read {w2 : World} {rb base n lo : Nat} {V : Nat → List Int} (h : OwnG w2 rb base 44 3 ((List.range n).map V)) (hrb : rb < base) (hlo : lo ≤ rb) {X : World} (hX : ∀ g, lo ≤ g → g < w2.heap.size → X.heap[g]? = w2.heap[g]?) {a : Nat} (ha : a < n) :
  ∃ A c, X.cell? ⟨rb, a, none⟩ = some (.slice A (V a).length c) ∧ ∀ j, j < (V a).length → ∃ ad, A = some ad ∧ lo ≤ ad.block ∧ X.cell? (ad.add j) = some (.int .i64 ((V a).getD j 0)) := by
 obtain ⟨rv, hc, _, _, hown, ⟨A, c, e⟩, _⟩ := h.at_ hrb (a := a) (by simp; exact ha)
 have hr : rowOf ((List.range n).map V) a = V a := by
  unfold rowOf
  rw [List.getD_eq_getElem?_getD, List.getElem?_map, List.getElem?_range ha]; rfl
 rw [hr] at hown e
 subst e
 refine ⟨A, c, ?_, fun j hj => ?_⟩
 ·refine (World.cell?_of_block (w := w2) (hX rb hlo h.lt)).trans hc
 ·have hil := own_il (by rw [flat_encI]; exact hown)
  obtain ⟨A', c', e', hil⟩ := hil
  injection e' with e1 e2 e3
  subst e1 e3
  obtain ⟨ad, rfl, hb, hcell⟩ := hil.at_ hj
  have hl := hown.lt ad.block rfl
  refine ⟨ad, rfl, by omega, (World.cell?_of_block (w := w2) (hX _ ?_ ?_)).trans hcell⟩
  ·rw [add_block]; omega
  ·rw [add_block]; exact hb
def takenB (P : Pgm) (k : Nat) : Bool := (marks (liveB P) P.fn).any fun a => (valuesL P a).contains (k : Int)
def tkM (V : Nat → List Int) (pre : List Nat) (l : List Int) (k : Nat) : Bool := (pre.any fun a => (V a).contains (k : Int)) || l.contains (k : Int)
def tkA (n : Nat) (S : Nat → Bool) : Array Value := arrN n fun k => .bool (S k)
theorem tkA_at {n : Nat} {S : Nat → Bool} {m : Nat} (hm : m < n) : (tkA n S)[m]? = some (.bool (S m)) := arrN_at _ hm
theorem tkA_set {n : Nat} {V : Nat → List Int} {pre : List Nat} {l : List Int} (m : Nat) : (tkA n (tkM V pre l)).setIfInBounds m (.bool true) = tkA n (tkM V pre (l ++ [(m : Int)])) := by
 unfold tkA
 rw [arrN_set]
 congr 1
 funext j
 unfold tkM
 by_cases h : j = m
 ·subst h; simp
 ·have h2 : ¬ (j : Int) = (m : Int) := by omega
  simp [h, h2]
theorem tkM_next {V : Nat → List Int} {pre : List Nat} (x : Nat) : tkM V pre (V x) = tkM V (pre ++ [x]) [] := by
 funext k
 unfold tkM
 simp [List.any_append]
theorem bl_arr {W : World} {db n : Nat} {g : Nat → Bool} (h : Blk W db 4 (tkA n g)) (hn : n ≤ 1000) : BL W (some ⟨db, 0, none⟩) n n ((List.range n).map g) := by
 have := wd_blk (enc := encB) (l := (List.range n).map g) h encB_len (by unfold tkA arrN; congr 1; rw [List.flatMap_map]; induction (List.range n) with | nil => rfl | cons a l ih => simp [encB, ih]) (by unfold maxLen; simp; omega)
 rwa [List.length_map, List.length_range] at this
set_option maxRecDepth 100000 in
set_option maxHeartbeats 8000000 in
theorem taken_any (w : World) (P : Pgm) (h : PgR w P) : Calls Tryz.prog 17 #[pgV P] w (BlA w P.fn (takenB P)) := by
 have HVA := Hd (fun W (hb : Below w.heap.size w W) => values_tells W P (h.on hb))
 have HLI := Hd (fun W (hb : Below w.heap.size w W) => live_any W P (h.on hb))
 have hfn := h.few.1
 have hmk := make_bools P.fn (by omega)
 have HVR := Hd (fun a j (hj : j < (valuesL P a).length) => (show ∃ t : Nat, t < P.fn ∧ (valuesL P a).getD j 0 = (t : Int) from rise_at hj))
 have HEND : Hid (tkM (valuesL P) (marks (liveB P) P.fn) [] = takenB P) := Hd (by funext k; unfold tkM takenB; simp)
 have HVF := Hd (fun a => show (valuesL P a).length ≤ 24 from Nat.le_trans (rise_len _ _) h.few.1)
 clear h
 obtain ⟨T, hT⟩ : ∃ T, takenB P = T := ⟨_, rfl⟩
 rw [hT] at HEND ⊢
 obtain ⟨V, hV⟩ : ∃ V, valuesL P = V := ⟨_, rfl⟩
 rw [hV] at HVA HVR HEND HVF
 obtain ⟨f, hf⟩ : ∃ f, liveB P = f := ⟨_, rfl⟩
 rw [hf] at HLI HEND
 clear hT hV hf
 obtain ⟨fA, fn, fc, fs, dA, dn, dc, ds, en, cs⟩ := P
 unfold pgV at HVA HLI ⊢
 dsimp only at HVA HLI HVR HEND hfn hmk ⊢
 obtain ⟨W0, hW0⟩ : ∃ W0, ((w.alloc (.cells #[.slice fA fn fc, .slice dA dn dc, .int .i64 en] 29)).alloc (.cells (Array.replicate fn (.bool false)) 4)).alloc (.cells #[.slice (some ⟨w.heap.size + 1, 0, none⟩) fn fn] 38) = W0 := ⟨_, rfl⟩
 have HW0 := Hd hW0
 have HB0 := Hd (show Below w.heap.size w W0 from by rw [← hW0]; exact to_ (alloc_ _ _) (to_ (alloc_ _ _) (alloc_ _ _)))
 have hS0 : W0.heap.size = w.heap.size + 3 := by rw [← hW0]; simp
 have hP0 : Blk W0 w.heap.size 29 #[.slice fA fn fc, .slice dA dn dc, .int .i64 en] := by rw [← hW0]; exact ((Blk.new _ _ _).alloc _).alloc _
 have hP9 : Blk (w.alloc (.cells #[.slice fA fn fc, .slice dA dn dc, .int .i64 en] 29)) w.heap.size 29 #[.slice fA fn fc, .slice dA dn dc, .int .i64 en] := Blk.new _ _ _
 have hr0 : Blk W0 (w.heap.size + 1) 4 (Array.replicate fn (.bool false)) := by
  rw [← hW0]
  have := (Blk.new (w.alloc (.cells #[.slice fA fn fc, .slice dA dn dc, .int .i64 en] 29)) 4 (Array.replicate fn (.bool false))).alloc (.cells #[.slice (some ⟨w.heap.size + 1, 0, none⟩) fn fn] 38)
  rwa [World.size_alloc] at this
 have hv0 : Blk W0 (w.heap.size + 2) 38 #[.slice (some ⟨w.heap.size + 1, 0, none⟩) fn fn] := by
  rw [← hW0]
  have := Blk.new ((w.alloc (.cells #[.slice fA fn fc, .slice dA dn dc, .int .i64 en] 29)).alloc (.cells (Array.replicate fn (.bool false)) 4)) 38 #[.slice (some ⟨w.heap.size + 1, 0, none⟩) fn fn]
  rwa [World.size_alloc, World.size_alloc] at this
 have HPB := Hd hP0
 have HRB := Hd hr0
 have HVB := Hd hv0
 have HS0 := Hd hS0
 have y0 : (w.alloc (.cells #[.slice fA fn fc, .slice dA dn dc, .int .i64 en] 29)).cell? ⟨w.heap.size, 0, none⟩ = some (.slice fA fn fc) := hP9.cell 0
 obtain ⟨x0, x1, x2⟩ := q3Z hP0
 clear hP0 hP9 hr0 hv0 hS0
 refine (callsIn_wide (n := 4)).1 ?_
 refine callsIn_of_wp_marks Tryz.func17 rfl trivial ?_ rfl
 simp only [Tryz.ntmps17, List.size_toArray, List.length_cons, List.length_nil, Nat.reduceAdd, Nat.reduceSub, Array.replicate_succ, Array.replicate_zero, List.push_toArray, List.append_toArray, List.nil_append, List.cons_append]
 gi_wp2_with (first
  | (refine ⟨trivial, ?_⟩; gi_at_call 47; refine (callsIn_wide.2 (HVA.out W0 HB0.out)).mono ?_; rintro e w2 ⟨rb, base, rfl, hg, hrb, hbs, hb2⟩; obtain ⟨W3, hW3⟩ : ∃ x, w2.alloc (.cells #[.slice (some ⟨rb, 0, none⟩) fn fn] 41) = x := ⟨_, rfl⟩; have HB2 := Hd hb2; have HW3 := Hd (show Below w2.heap.size w2 W3 from by rw [← hW3]; exact alloc_ _ _); have HVX := Hd (show Blk W3 w2.heap.size 41 #[.slice (some ⟨rb, 0, none⟩) fn fn] from by rw [← hW3]; exact Blk.new _ _ _); have HG := Hd hg; have HRL := Hd (show W0.heap.size ≤ rb ∧ rb < base ∧ W0.heap.size ≤ w2.heap.size from ⟨hrb, hbs, hb2.size⟩); have HS3 := Hd (show W3.heap.size = w2.heap.size + 1 from by rw [← hW3]; simp); have HB3 := Hd (to_ HB2.out HW3.out); clear hg hrb hbs hb2 x0 x1 x2 y0 hW0; have q9 := HPB.out.below HB3.out HPB.out.lt; obtain ⟨x0, x1, x2⟩ := q3Z q9; clear q9)
  | (refine ⟨trivial, ?_⟩; gi_at_call 15; refine (callsIn_wide.2 (HLI.out W3 (to_ HB0.out HB3.out))).mono ?_; rintro e w4 ⟨A4, c4, rfl, hbl, hb4, hlo⟩; have HBL := Hd hbl; have HB4 := Hd hb4; have HLO := Hd hlo; clear hbl hb4 hlo x0 x1 x2 hW3)
  | (refine ⟨trivial, ?_⟩; gi_at_call 48; refine (callsIn_wide.2 (marked_it w4 A4 fn c4)).mono ?_; rintro e w5 ⟨rfl, hw5⟩; have HW5 := Hd hw5; clear hw5))
 have hs0 := HS0.out
 have hs3 := HS3.out
 have hs4 := HB4.out.size
 have hrl := HRL.out
 have hs5 : w5.heap.size = w4.heap.size + 1 := by rw [HW5.out]; simp
 have HB5 := Hd (show Below w4.heap.size w4 w5 from by rw [HW5.out]; exact alloc_ _ _)
 have HMB := Hd (show Blk w5 w4.heap.size 38 #[.slice A4 fn c4] from by rw [HW5.out]; exact Blk.new _ _ _)
 have HB05 := Hd (show Below W0.heap.size W0 w5 from to_ HB3.out (to_ HB4.out HB5.out))
 have HS5 := Hd hs5
 have HS4 := Hd hs4
 have hr5 : Blk w5 (w.heap.size + 1) 4 (tkA fn (tkM V [] [])) := by
  have e : tkA fn (tkM V [] []) = Array.replicate fn (.bool false) := by
   rw [arrN_rep]; unfold tkA tkM; simp
  rw [e]; exact HRB.out.below HB05.out HRB.out.lt
 refine wpIn_rangeX rfl (by decide) (gf := 92) (lb := #[.pointer (some ⟨w4.heap.size, 0, none⟩)]) rfl trivial (enters_of Tryz.func92 (by kernel_rfl) rfl)
  (marked_tells 3 w4.heap.size w4.heap.size A4 fn c4 f (by omega) (fun k => W3.heap.size ≤ k ∧ k < w5.heap.size) (by omega) (fun hz ad e => ⟨HLO.out ad e, by obtain ⟨ad', e', hb', _⟩ := HBL.out.at_ hz; rw [e] at e'; cases e'; omega⟩) w5 (fun k hk => hk.2) (HMB.out.cell 0) (HBL.out.below HB5.out) (by omega))
  (Below.refl _ _) (fun _ => rfl)
  (fun k => k < w5.heap.size) (fun k h h' => by unfold Two at h; omega) (fun k h => trivial) (fun k h => trivial) (by omega)
  (fun pre X => Blk X (w.heap.size + 1) 4 (tkA fn (tkM V pre [])) ∧ Keeps (fun k => k < w5.heap.size ∧ k ≠ w.heap.size + 1) w5 X)
  (fun _ _ _ => False)
  (fun pre X Y ⟨h2, h3⟩ hk => ⟨(hk.block _ (by show w.heap.size + 1 < w5.heap.size; omega) h2.lt).trans h2, h3.trans (hk.mono fun k hk1 _ => hk1.1)⟩)
  (fun _ _ _ _ h _ _ => h)
  ⟨hr5, Keeps.refl _ _⟩
  (fun x X => { tmps := #[.agg #[.slice fA fn fc, .slice dA dn dc, .int .i64 en], .pointer (some ⟨w.heap.size, 0, none⟩), .slice none 0 0, .pointer (some ⟨w.heap.size + 1 + 1, 0, none⟩), .pointer (some ⟨w2.heap.size, 0, none⟩), .int .i64 (x : Int), undef, undef, .pointer (some ⟨w.heap.size, 0, none⟩), .slice fA fn fc, .int .i64 (fn : Int), .slice (some ⟨w.heap.size + 1, 0, none⟩) fn fn, .agg #[.slice fA fn fc, .slice dA dn dc, .int .i64 en], .slice (some ⟨rb, 0, none⟩) fn fn, .agg #[.slice fA fn fc, .slice dA dn dc, .int .i64 en], .slice A4 fn c4, .func (.func 92) #[] #[.pointer (some ⟨w4.heap.size, 0, none⟩)], .int .i64 (x : Int), undef, undef, undef, undef, undef, undef, undef, undef, undef, undef, undef, undef, undef, undef], defers := [] })
  (fun x X => X)
  (fun x X => Keeps.refl _ X) ?assign ?body ?done ?stop
 case assign =>
  intro l1 x X K hK
  clear hs0 hs3 hs4 hs5 hr5 hrl
  unfold itE
  gi_wp2
  exact hK
 case body =>
  rintro l1 pre x V0 X ⟨hrb9, hk9⟩ hpre hsz2 hk hcl
  have hxm := (marks_of hpre).1
  have hx0 : (0 : Int) ≤ (x : Int) := by omega
  have hxI : (x : Int) < (fn : Int) := by omega
  have hvx : Blk w5 w2.heap.size 41 #[.slice (some ⟨rb, 0, none⟩) fn fn] := HVX.out.below (to_ HB4.out HB5.out) HVX.out.lt
  have hvb : Blk w5 (w.heap.size + 1 + 1) 38 #[.slice (some ⟨w.heap.size + 1, 0, none⟩) fn fn] := HVB.out.below HB05.out HVB.out.lt
  have c0 : X.cell? ⟨w2.heap.size, 0, none⟩ = some (.slice (some ⟨rb, 0, none⟩) fn fn) := hk9.cell (by show w2.heap.size < w5.heap.size ∧ w2.heap.size ≠ w.heap.size + 1; omega) (hvx.cell 0)
  have c1 : X.cell? ⟨w.heap.size + 1 + 1, 0, none⟩ = some (.slice (some ⟨w.heap.size + 1, 0, none⟩) fn fn) := hk9.cell (by show w.heap.size + 1 + 1 < w5.heap.size ∧ w.heap.size + 1 + 1 ≠ w.heap.size + 1; omega) (hvb.cell 0)
  obtain ⟨A9, c9, hrc, hrj⟩ := rows_read HG.out HRL.out.2.1 HRL.out.1 (X := X) (fun g h1 h2 => (hk9.block g ⟨by omega, by omega⟩ (by omega)).trans ((to_ HW3.out (to_ HB4.out HB5.out)).block g h2)) hxm
  obtain ⟨m9, hm9⟩ : ∃ m9, (V x).length = m9 := ⟨_, rfl⟩
  have hm24 := HVF.out x
  rw [hm9] at hrc hrj hm24
  have HRJ := Hd hrj
  have HK9 := Hd hk9
  have HR9 := Hd hrb9
  have HM9 := Hd hm9
  have HC1 := Hd c1
  have HSS := Hd (show w.heap.size + 3 ≤ w2.heap.size ∧ w2.heap.size < W3.heap.size ∧ W3.heap.size ≤ w5.heap.size ∧ W0.heap.size = w.heap.size + 3 by omega)
  have HVRX := Hd (fun j (hj : j < m9) => HVR.out x j (by rw [hm9]; exact hj))
  clear hrj hk9 hrb9 hm9 hpre hk hcl hvx hvb hr5 hs0 hs3 hs4 hs5 hrl
  gi_wp2
  gi_loopw [23] (fun i wr => ∃ j : Nat, j ≤ m9 ∧ i = .int .i64 (j : Int) ∧ Blk wr (w.heap.size + 1) 4 (tkA fn (tkM V pre ((V x).take j))) ∧ Keeps (fun k => k ≠ w.heap.size + 1) X wr) (fun i _ => m9 - (intOf i).toNat)
  case atStart => exact ⟨0, Nat.zero_le _, rfl, HR9.out, Keeps.refl _ _⟩
  case round =>
   obtain ⟨j, hj, rfl, hbk, hK⟩ := hrel
   by_cases hlt : j < m9
   ·have hjI : (j : Int) < (m9 : Int) := by omega
    have hj0 : (0 : Int) ≤ (j : Int) := by omega
    obtain ⟨ad, rfl, hlo9, hcj⟩ := HRJ.out j hlt
    obtain ⟨m, hm, he⟩ := HVRX.out j hlt
    rw [he] at hcj
    have hcj := hK.cell (by rw [add_block]; have h7 := HSS.out; omega) hcj
    have c1 := hK.cell (by show w.heap.size + 1 + 1 ≠ w.heap.size + 1; omega) HC1.out
    have hmI : (m : Int) < (fn : Int) := by omega
    have hm0 : (0 : Int) ≤ (m : Int) := by omega
    have r0 : wr.cell? ⟨w.heap.size + 1, m, none⟩ = some (.bool (tkM V pre ((V x).take j) m)) := by rw [hbk.cell]; exact tkA_at hm
    have hfr : wr.frozen? ⟨w.heap.size + 1, m, none⟩ = false := hbk.frozen m
    have HBK := Hd hbk
    have HKK := Hd hK
    have HTN := Hd (show (V x).take (j + 1) = (V x).take j ++ [(m : Int)] from by rw [take_next (d := 0) (by rw [HM9.out]; exact hlt), he])
    obtain ⟨b9, hb9⟩ : ∃ b9, tkM V pre ((V x).take j) m = b9 := ⟨_, rfl⟩
    rw [hb9] at r0
    clear hbk hK hb9 he hlo9
    gi_wp2
    go_roundw
    case rel => exact ⟨j + 1, by omega, by go_num, by rw [HTN.out, ← tkA_set]; exact HBK.out.stored m _, HKK.out.setCell (by simp) _⟩
    case measure => simp [intOf]; omega
   ·obtain rfl : j = m9 := by omega
    have HBK := Hd hbk
    have HKK := Hd hK
    clear hbk hK
    gi_wp2
    have h7 := HSS.out
    refine ⟨HKK.out.mono (fun k hk _ => by unfold Two at hk; omega), ?_, HK9.out.trans (HKK.out.mono fun k hk _ => hk.2)⟩
    have h8 := HBK.out
    rw [← HM9.out, List.take_length, tkM_next] at h8
    exact h8
 case done =>
  rintro X ⟨hrb9, hk9⟩ hD
  have hvb : Blk w5 (w.heap.size + 1 + 1) 38 #[.slice (some ⟨w.heap.size + 1, 0, none⟩) fn fn] := HVB.out.below HB05.out HVB.out.lt
  have r0 : X.cell? ⟨w.heap.size + 1 + 1, 0, none⟩ = some (.slice (some ⟨w.heap.size + 1, 0, none⟩) fn fn) := hk9.cell (by show w.heap.size + 1 + 1 < w5.heap.size ∧ w.heap.size + 1 + 1 ≠ w.heap.size + 1; omega) (hvb.cell 0)
  have HR9 := Hd hrb9
  have HK9 := Hd hk9
  have HSS := Hd (show w.heap.size + 3 ≤ w2.heap.size ∧ w2.heap.size < W3.heap.size ∧ W3.heap.size ≤ w5.heap.size by omega)
  clear hrb9 hk9 hvb hr5 hs0 hs3 hs4 hs5 hrl
  gi_wp2
  have h7 := HSS.out
  refine ⟨by simp, .inl ⟨_, _, rfl, run_takeDeferred hD, ?_⟩⟩
  refine ⟨_, results_tmp rfl _ _ _, _, _, rfl, ?_, ?_, fun ad e => by cases e; show w.heap.size ≤ w.heap.size + 1; omega⟩
  ·rw [← HEND.out]
   exact bl_arr ((World.putObj_heap_other (by omega)).trans HR9.out) (by omega)
  ·exact (to_ HB0.out HB05.out).trans ((HK9.out.below (by omega) (fun k hk => ⟨by omega, by omega⟩)).trans ⟨rfl, rfl, rfl, by simp, fun k hk => World.putObj_heap_other (by omega)⟩)
 case stop =>
  rintro ch pre X _ h _
  exact h.elim
end Go.Proofs.YtdaimeaofgbfpaaGreat.Bo
