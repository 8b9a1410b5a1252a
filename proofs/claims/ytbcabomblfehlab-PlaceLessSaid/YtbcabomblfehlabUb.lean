/-
  A RANGE OVER A FUNCTION whose rounds have boxed variables, of no program. WALKS of layer 29: the iterators of things that follow one another.
-/
import Derived.Test.YtbcabomblfehlabUa
import Derived.RangeFuncBox
namespace Go.Proofs.Ytbcabomblfehlab.Rf
open Go.RowKit
variable {F : Fence} {n : Nat} {P : Program}

/-- AN ITERATOR THAT TELLS xs, as Tells; a round that stops keeps what the iterator has laid; what holds then is not turned by what the iterator does to its own blocks. -/
def TellsX {α : Type} (F : Fence) (n : Nat) (P : Program) (g : Nat) (lb : Array Value) (encs : α → Array Value) (U T : Nat → Nat → Prop) (xs : List α) (w : World) : Prop :=
  ∀ (l : Nat) (J Jx : List α → World → Prop) (W : World), Below w.heap.size w W →
    (∀ s A B, J s A → Keeps (T W.heap.size) A B → J s B) →
    (∀ s A B, Jx s A → Keeps (fun k => k < W.heap.size) A B → (∀ p, B.cell? p = A.cell? p) → Jx s B) →
    (∀ pre x W1, J pre W1 → pre ++ [x] <+: xs → YieldAt F (n - 1) P l (encs x) W1 fun e W' =>
      (e = .returned (.bool true) ∧ J (pre ++ [x]) W' ∧ Keeps (U W.heap.size) W1 W') ∨ (e = .returned (.bool false) ∧ Jx (pre ++ [x]) W' ∧ Keeps (fun k => W.heap.size ≤ k) W1 W')) →
    J [] W →
    CallsIn F n P g (#[.func (.yield l) #[] #[]] ++ lb) W fun e W' => (∃ v, e = .returned v) ∧ (J xs W' ∨ ∃ pre, pre <+: xs ∧ Jx pre W')

/-- How the body of a round may be left. -/
def roundEndX {α : Type} (d : Nat) (K : Nat → Prop) (I : List α → World → Prop) (Ix : Code → List α → World → Prop) (xs : List α) (W : World) : Exit → Act → World → Prop
  | .normal, _, W' => Keeps (fun k => K k ∨ Two d k) W W' ∧ I xs W'
  | .ret, _, W' => Keeps (fun k => d + 2 ≤ k ∨ Two d k) W W' ∧ Ix .ret xs W'
  | .exit id, _, W' => Keeps (fun k => d + 2 ≤ k ∨ Two d k) W W' ∧ Ix (.exit id) xs W'
  | .goto t, _, W' => Keeps (fun k => d + 2 ≤ k ∨ Two d k) W W' ∧ Ix (.goto t) xs W'
  | .panic _, _, _ => False
  | .outgrown, _, _ => False

theorem roundIn_any {n' l l' : Nat} {fn : FuncId} {tmps : Array Value} {assign body : Code} {w : World} {R : Ending → World → Prop} (h : RoundIn Fence.wide n P l fn tmps assign body w R) : RoundIn (Fence.wide.inRound l') n' P l fn tmps assign body w R :=
  ⟨h.1, fun c cs _ => h.2 c cs (fun d e => by cases e)⟩

theorem cell_putDeferred {W : World} {d : Nat} {x y : Option (List Deferred)} (h : W.heap[d]? = some (.deferred x)) (p : Addr) : (W.putObj d (.deferred y)).cell? p = W.cell? p := by
  by_cases e : p.block = d
  · have h1 := World.putObj_heap_same (w := W) (o := .deferred y) (Array.getElem?_eq_some_iff.1 h).1
    rw [← e] at h h1
    unfold World.cell?
    rw [← e, h1, h]
  · exact World.cell?_of_block (World.putObj_heap_other e)

/-- THE STATEMENT 'for .. := range seq { body }'. -/
theorem wpIn_rangeX {α : Type} {g : Operand} {ps : Array Tmp} {assign body : Code} {Q : Exit → Act → World → Prop} {a : Act} {w : World}
    (hro : F.round = none) (h1 : 1 ≤ n) {gf : Nat} {lb : Array Value} (hg : a.eval g = .func (.func gf) #[] lb) (hFg : F.fn gf) (eg : ∀ args w, (callFunc gf args).run P w = .ok (.enter gf args) w)
    {encs : α → Array Value} {U T : Nat → Nat → Prop} {xs : List α} {w0 : World} (hseq : TellsX F (n - 1) P gf lb encs U T xs w0) (hb0 : Below w0.heap.size w0 w) (hps : ∀ x, (encs x).size = ps.size)
    (V : Nat → Prop) (hV : ∀ k, Two w.heap.size k → ¬ V k) (hVT : ∀ k, V k → T (w.heap.size + 2) k) (hTT : ∀ k, Two w.heap.size k → T (w.heap.size + 2) k) (hU : ¬ U (w.heap.size + 2) (w.heap.size + 1))
    (I : List α → World → Prop) (Ix : Code → List α → World → Prop) (hI : ∀ s A B, I s A → Keeps V A B → I s B) (hIx : ∀ c s A B, Ix c s A → Keeps (fun k => k < w.heap.size) A B → (∀ p, B.cell? p = A.cell? p) → Ix c s B)
    (h0 : I [] w) (a₁ : α → World → Act) (aw : α → World → World) (haw : ∀ x W, Keeps (fun _ => True) W (aw x W))
    (hassign : ∀ (l : Nat) (x : α) (W : World) (K : Act → World → Prop), K (a₁ x W) (aw x W) →
      assign.wpIn (F.inRound l) (n - 1 - 1) P (Exit.then K (fun _ _ _ => False)) { tmps := (ps.zip (encs x)).foldl (fun t (p, v) => t.setIfInBounds p v) a.tmps, defers := [] } W)
    (hbody : ∀ (l : Nat) (pre : List α) (x : α) (V0 W : World), I pre W → pre ++ [x] <+: xs → w.heap.size + 2 ≤ V0.heap.size → Keeps (fun k => k ≠ w.heap.size + 1) (aw x V0) W → (∀ p, W.cell? p = (aw x V0).cell? p) →
      body.wpIn (F.inRound l) (n - 1 - 1) P (roundEndX w.heap.size (U (w.heap.size + 2)) I Ix (pre ++ [x]) W) (a₁ x V0) W)
    (hdone : ∀ (W : World), I xs W → W.heap[w.heap.size]? = some (.deferred (some [])) → Q .normal { a with defers := { target := .collected w.heap.size, args := #[] } :: a.defers } W)
    (hstop : ∀ (c : Code) (pre : List α) (W : World), pre <+: xs → Ix c pre W → W.heap[w.heap.size]? = some (.deferred (some [])) → c.wpIn F n P Q { a with defers := { target := .collected w.heap.size, args := #[] } :: a.defers } W) :
    (Code.rangeFunc g ps assign body).wpIn F n P Q a w := by
  refine wpIn_rangeFunc fun fn hfn => ?_
  rw [hro]
  obtain ⟨r, hr⟩ : ∃ r : LoopState → Option Code → Loop, r = fun st pe => { state := st, pending := pe, fn := fn, tmps := a.tmps, params := ps, assign := assign, body := body, defers := w.heap.size } := ⟨_, rfl⟩
  obtain ⟨W1, hW1⟩ : ∃ W1, (w.alloc (.deferred (some []))).alloc (.loop (r .ready none)) = W1 := ⟨_, rfl⟩
  have hs1 : W1.heap.size = w.heap.size + 2 := by rw [← hW1]; simp
  have hR1 : Rec w.heap.size (r .ready none) W1 := by
    rw [← hW1]
    refine ⟨?_, (Below.heap_alloc _ _ _ (by simp)).trans (World.alloc_heap_new w _)⟩
    have := World.alloc_heap_new (w.alloc (.deferred (some []))) (.loop (r .ready none))
    rwa [World.size_alloc] at this
  have hk1 : Keeps V w W1 := by rw [← hW1]; exact ((Keeps.refl V w).alloc _).alloc _
  have hb1 : Below w0.heap.size w0 W1 := by
    rw [← hW1]; exact hb0.trans ((((Below.refl _ w).alloc (Nat.le_refl _) _).alloc (by simp) _).mono hb0.size)
  refine ⟨w.heap.size + 1, [{ target := .collected w.heap.size, args := #[] }], W1, { target := .fn (.func gf) lb, args := #[.func (.yield (w.heap.size + 1)) #[] #[]] }, W1, gf,
    #[.func (.yield (w.heap.size + 1)) #[] #[]] ++ lb, W1, ?_, ?_, ?_, ?_, fun _ => h1, ?_⟩
  · rw [← hW1, hr]; exact run_enterLoop_outer _ _ _ _ _
  · simp only [resolve, hg]
    simp [go_sem]
  · intro f' hf'; simp [Target.leads] at hf'; subst hf'; exact hFg
  · simp [invoke, go_sem, eg]
  refine (hseq (w.heap.size + 1) (fun pre W => I pre W ∧ Rec w.heap.size (r .ready none) W) (fun pre W => ∃ c, Ix c pre W ∧ Rec w.heap.size (r .done (some c)) W) W1 hb1
    (fun s A B hs hk => ⟨hI s A B hs.1 (hk.mono fun k hv _ => hs1 ▸ hVT k hv), hs.2.keep hk (fun k h => hs1 ▸ hTT k h)⟩)
    (fun s A B ⟨c, h1, h2⟩ hk hc => ⟨c, hIx _ _ _ _ h1 (hk.mono fun k hlt _ => by omega) hc, h2.keep hk (fun k h => by unfold Two at h; omega)⟩)
    ?_ ⟨hI _ _ _ h0 hk1, hR1⟩).mono ?_
  · rintro pre x V0 ⟨hi0, hrec0⟩ hpre
    have hy := run_yield (P := P) (args := encs x) hrec0.1 (by rw [hr]; exact hps x)
    have hk0 := haw x V0
    have hsz0 : w.heap.size + 2 ≤ V0.heap.size := by have := (Array.getElem?_eq_some_iff.1 hrec0.1).1; omega
    have hst : (r .ready none).state = .ready := by rw [hr]
    obtain ⟨B, hB⟩ : ∃ B : Loop, B = { r .ready none with state := .busy } := ⟨_, rfl⟩
    have hrec : Rec w.heap.size (r .ready none) (aw x V0) := hrec0.keep hk0 fun _ _ => trivial
    refine ⟨fn, _, assign, body, by rw [hy, hr], roundIn_of_wpIn hfn (hassign _ x V0 _ ⟨_, run_beginRound hrec.1 hst, ?_⟩)⟩
    rw [← hB]
    have hi : I pre (aw x V0) := hI _ _ _ hi0 (hk0.mono fun _ _ _ => trivial)
    have HB := hbody (w.heap.size + 1) pre x V0 ((aw x V0).putObj (w.heap.size + 1) (.loop B)) (hI _ _ _ hi ((Keeps.refl V _).putObj (hV _ (.inr rfl)) _)) hpre hsz0 ((Keeps.refl (fun k => k ≠ w.heap.size + 1) _).putObj (l := w.heap.size + 1) (by simp) _) (cell_putLoop hrec.1)
    obtain ⟨W, hW⟩ : ∃ W, aw x V0 = W := ⟨_, rfl⟩
    rw [hW] at hk0 hrec hi HB ⊢
    have hnV : ¬ V (w.heap.size + 1) := hV _ (.inr rfl)
    have hrb : Rec w.heap.size B (W.putObj (w.heap.size + 1) (.loop B)) := hrec.put B
    have hi2 : I pre (W.putObj (w.heap.size + 1) (.loop B)) := hI _ _ _ hi ((Keeps.refl V W).putObj hnV _)
    have hsz : w.heap.size + 2 ≤ W.heap.size := by have := (Array.getElem?_eq_some_iff.1 hrec.1).1; omega
    refine wpIn_mono HB ?_
    have fin : ∀ (j : Option Code) (W3 : World), Rec w.heap.size B W3 →
        (Instr.endRound (w.heap.size + 1) j).run P W3 = .ok (.bool j.isNone) (W3.putObj (w.heap.size + 1) (.loop (r (if j.isNone then .ready else .done) j))) ∧
        Rec w.heap.size (r (if j.isNone then .ready else .done) j) (W3.putObj (w.heap.size + 1) (.loop (r (if j.isNone then .ready else .done) j))) := fun j W3 h3 => by
      have := run_endRound (P := P) j h3.1
      rw [hB, hr] at this
      refine ⟨by rw [this, hr], h3.put _⟩
    have hX : ∀ {W3 : World} {o : Obj}, Keeps (fun k => w.heap.size + 2 ≤ k ∨ Two w.heap.size k) (W.putObj (w.heap.size + 1) (.loop B)) W3 → Keeps (fun k => W1.heap.size ≤ k) V0 (W3.putObj (w.heap.size + 1) o) := fun hk3 => by
      rw [hs1]
      refine (hk0.mono fun _ _ _ => trivial).trans ?_
      exact (((Keeps.refl (fun k => w.heap.size + 2 ≤ k) W).putObj (l := w.heap.size + 1) (by simp) _).trans (hk3.mono fun k h _ => .inl h)).putObj (l := w.heap.size + 1) (by simp) _
    intro e a3 W3 hp
    cases e with
    | normal =>
      obtain ⟨hk3, hi3⟩ := hp
      obtain ⟨hrun, hr3⟩ := fin none W3 (hrb.keep hk3 fun k h => .inr h)
      refine ⟨_, _, hrun, .inl ⟨rfl, ⟨hI _ _ _ hi3 ((Keeps.refl V W3).putObj hnV _), hr3⟩, ?_⟩⟩
      rw [hs1]
      refine (hk0.mono fun _ _ _ => trivial).trans ?_
      exact (((Keeps.refl _ W).putObj hU _).trans (hk3.mono fun k h _ => .inl h)).putObj hU _
    | ret =>
      obtain ⟨hk3, hi3⟩ := hp
      have hrb3 := hrb.keep hk3 fun k h => .inr h
      obtain ⟨hrun, hr3⟩ := fin (some .ret) W3 hrb3
      exact ⟨_, _, hrun, .inr ⟨rfl, ⟨.ret, hIx _ _ _ _ hi3 ((Keeps.refl (fun k => k < w.heap.size) W3).putObj (l := w.heap.size + 1) (by simp) _) (cell_putLoop hrb3.1), hr3⟩, hX hk3⟩⟩
    | exit id =>
      obtain ⟨hk3, hi3⟩ := hp
      have hrb3 := hrb.keep hk3 fun k h => .inr h
      obtain ⟨hrun, hr3⟩ := fin (some (.exit id)) W3 hrb3
      exact ⟨_, _, hrun, .inr ⟨rfl, ⟨.exit id, hIx _ _ _ _ hi3 ((Keeps.refl (fun k => k < w.heap.size) W3).putObj (l := w.heap.size + 1) (by simp) _) (cell_putLoop hrb3.1), hr3⟩, hX hk3⟩⟩
    | goto t =>
      obtain ⟨hk3, hi3⟩ := hp
      have hrb3 := hrb.keep hk3 fun k h => .inr h
      obtain ⟨hrun, hr3⟩ := fin (some (.goto t)) W3 hrb3
      exact ⟨_, _, hrun, .inr ⟨rfl, ⟨.goto t, hIx _ _ _ _ hi3 ((Keeps.refl (fun k => k < w.heap.size) W3).putObj (l := w.heap.size + 1) (by simp) _) (cell_putLoop hrb3.1), hr3⟩, hX hk3⟩⟩
    | panic ch => exact hp.elim
    | outgrown => exact hp.elim
  · have hnV : ¬ V (w.heap.size + 1) := hV _ (.inr rfl)
    rintro e W2 ⟨⟨v, rfl⟩, (⟨hi, hrec⟩ | ⟨pre, hpre, c, hi, hrec⟩)⟩
    · have hb : (r .ready none).state ≠ .busy := by rw [hr]; simp
      have := run_endLoop (P := P) hrec.1 hb
      refine ⟨none, _, by rw [this, hr], hdone _ (hI _ _ _ hi ((Keeps.refl V W2).putObj hnV _)) ((World.putObj_heap_other (by omega)).trans hrec.2)⟩
    · have hb : (r .done (some c)).state ≠ .busy := by rw [hr]; simp
      have := run_endLoop (P := P) hrec.1 hb
      refine ⟨some c, _, by rw [this, hr], hstop c pre _ hpre (hIx _ _ _ _ hi ((Keeps.refl (fun k => k < w.heap.size) W2).putObj (l := w.heap.size + 1) (by simp) _) (cell_putLoop hrec.1)) ((World.putObj_heap_other (by omega)).trans hrec.2)⟩
end Go.Proofs.Ytbcabomblfehlab.Rf

namespace Go.Proofs.Ytbcabomblfehlab.Bo
open Go.RowKit Go.Maps
open Mem Rf
set_option linter.unusedSimpArgs false
set_option linter.unusedVariables false

/-- What the iterator tells of a thing: its number, and its span. -/
def spE (s : Nat → Int) (f : Int) (k : Nat) : Array Value := #[.int .i64 (k : Int), .agg #[.int .i64 (stV s f k), .int .i64 (stV s f (k + 1))]]

set_option maxRecDepth 100000 in
set_option maxHeartbeats 4000000 in
theorem spansF_in (q l bF bM bS c1 c2 : Nat) (s : Nat → Int) (f : Int) (n : Nat) (hs : ∀ k, k < n → 0 ≤ s k ∧ s k ≤ 2000) (hf : 0 ≤ f ∧ f ≤ 2) (hn : n ≤ 1000) (J Jx : List Nat → World → Prop) (U : Nat → Prop) (hU : U bF ∧ U bM ∧ U bS)
    (hJ : ∀ t X Y, J t X → Keeps (fun _ => True) X Y → J t Y) (W : World)
    (hY : ∀ pre x W1, J pre W1 → pre ++ [x] <+: told s n → YieldAt Fence.wide (q - 1) Try.prog l (spE s f x) W1 fun e W' =>
      (e = .returned (.bool true) ∧ J (pre ++ [x]) W' ∧ Keeps U W1 W') ∨ (e = .returned (.bool false) ∧ Jx (pre ++ [x]) W'))
    (cF : W.cell? ⟨bF, 0, none⟩ = some (.int .i64 f)) (cM : W.cell? ⟨bM, 0, none⟩ = some (.int .i64 (n : Int))) (cS : W.cell? ⟨bS, 0, none⟩ = some (.func (.func 40) #[] #[.pointer (some ⟨c1, 0, none⟩), .pointer (some ⟨c2, 0, none⟩)]))
    (hZ : ∀ k, k < n → ∀ X, Keeps U W X → Calls Try.prog 40 #[.int .i64 (k : Int), .pointer (some ⟨c1, 0, none⟩), .pointer (some ⟨c2, 0, none⟩)] X fun e w' => e = .returned (.int .i64 (s k)) ∧ Below X.heap.size X w') (h0 : J [] W) :
    CallsIn Fence.wide q Try.prog 60 #[.func (.yield l) #[] #[], .pointer (some ⟨bF, 0, none⟩), .pointer (some ⟨bM, 0, none⟩), .pointer (some ⟨bS, 0, none⟩)] W fun e W' => (∃ v, e = .returned v) ∧
      (J (told s n) W' ∨ ∃ pre, pre <+: told s n ∧ Jx pre W') := by
  have h0' : J (told s 0) W := h0
  have hst0 : stV s f 0 = f := rfl
  have HS := Lib.hid hs
  have HY := Lib.hid hY
  have HJ := Lib.hid hJ
  have HZ := Lib.hid hZ
  have HU := Lib.hid hU
  have HC := Lib.hid (show ∀ X, Keeps U W X → X.cell? ⟨bF, 0, none⟩ = some (.int .i64 f) ∧ X.cell? ⟨bM, 0, none⟩ = some (.int .i64 (n : Int)) ∧ X.cell? ⟨bS, 0, none⟩ = some (.func (.func 40) #[] #[.pointer (some ⟨c1, 0, none⟩), .pointer (some ⟨c2, 0, none⟩)]) from fun X h => ⟨h.cell hU.1 cF, h.cell hU.2.1 cM, h.cell hU.2.2 cS⟩)
  have HSV := Lib.hid (fun k hk => stV_in (f := f) hs k hk)
  have HST := Lib.hid (fun k => show stV s f (k + 1) = stV s f k + s k from rfl)
  clear hs hY hJ hZ hU h0 cS
  refine callsIn_of_wp Try.func60 rfl trivial ?_ rfl
  simp only [Try.ntmps60, List.size_toArray, List.length_cons, List.length_nil, Nat.reduceAdd, Nat.reduceSub, Array.replicate_succ, Array.replicate_zero, List.push_toArray, List.append_toArray, List.nil_append, List.cons_append]
  gi_wp2
  gi_loopw [5, 10] (fun st i wr => ∃ k : Nat, k ≤ n ∧ i = .int .i64 k ∧ st = .int .i64 (stV s f k) ∧ J (told s k) wr ∧ Keeps U W wr) (fun _ i _ => n - (intOf i).toNat)
  case atStart => exact ⟨0, Nat.zero_le _, rfl, by rw [hst0], h0', Keeps.refl _ _⟩
  case round =>
    obtain ⟨k, hk, rfl, rfl, hJ, hK⟩ := hrel
    have hv := HSV.out k hk
    obtain ⟨_, _, cS⟩ := HC.out wr hK
    by_cases hlt : k < n
    · have hkI : (k : Int) < (n : Int) := by omega
      have hv2 := HSV.out (k + 1) (by omega)
      have hsz := HS.out k hlt
      have hst := HST.out k
      have hsz9 : (s k = 0) ∨ (0 < s k) := by omega
      have HP := Lib.hid hsz9
      have HTK := Lib.hid (@told_take s k)
      have HTS := Lib.hid (@told_skip s k)
      obtain ⟨x, hx⟩ : ∃ x, stV s f k = x := ⟨_, rfl⟩
      obtain ⟨y, hy⟩ : ∃ y, stV s f (k + 1) = y := ⟨_, rfl⟩
      obtain ⟨z, hz⟩ : ∃ z, s k = z := ⟨_, rfl⟩
      have HCA := Lib.hid (HZ.out k hlt wr hK)
      rw [hx] at hv hst ⊢
      rw [hy] at hv2 hst
      rw [hz] at hsz hst HP HCA HTK HTS hsz9
      have hsum : IntKind.i64.wrap (x + z) = y := by rw [IntWalk.i64_in _ (by omega)]; omega
      have HXY := Lib.hid (show stV s f k = x ∧ stV s f (k + 1) = y from ⟨hx, hy⟩)
      have HJ0 := Lib.hid hJ
      have HK0 := Lib.hid hK
      have HN := Lib.hid (show k + 1 ≤ n ∧ n ≤ 1000 from ⟨hlt, hn⟩)
      have HE := Lib.hid hst
      have hv9 := hv
      clear hx hy hz hv hv2 hJ hK hst
      rcases hsz9 with rfl | hpos
      · have hxy : ¬ x < y := by have := HE.out; omega
        have hw9 : wrap64 x = x := IntWalk.wrap64_in x (by omega)
        have hxx : ¬ x < x := by omega
        obtain rfl : y = x := by have := HE.out; omega
        gi_wp2
        refine ⟨trivial, fun h => (by cases h), (callsIn_wide.2 HCA.out).mono ?_⟩
        rintro e w2 ⟨rfl, hb2⟩
        have HK2 := Lib.hid (show Keeps (fun _ => True) wr w2 from Keeps.of_below hb2 (fun _ _ h => h))
        clear hb2
        gi_wp2
        refine ⟨fun _ h => (by cases h), ?_⟩
        gi_wp2
        go_roundw
        case rel => exact ⟨k + 1, by omega, by go_num, by rw [HXY.out.2], by rw [HTS.out (by omega)]; exact HJ.out _ _ _ HJ0.out HK2.out, HK0.out.trans (HK2.out.mono fun _ _ _ => trivial)⟩
        case measure => simp [intOf]; omega
      · have hxy : x < y := by have := HE.out; omega
        have HT := Lib.hid (HTK.out hpos)
        have HPR := Lib.hid (show told s k ++ [k] <+: told s n by rw [← HT.out]; exact told_pre hlt)
        gi_wp2
        refine ⟨trivial, fun h => (by cases h), (callsIn_wide.2 HCA.out).mono ?_⟩
        rintro e w2 ⟨rfl, hb2⟩
        have HK2 := Lib.hid (show Keeps (fun _ => True) wr w2 from Keeps.of_below hb2 (fun _ _ h => h))
        have HJ2 := Lib.hid (HJ.out _ _ _ HJ0.out HK2.out)
        obtain ⟨fnI, tmps, assign, body, hy, hR⟩ := HY.out _ k w2 HJ2.out HPR.out
        have HR := Lib.hid hR
        unfold spE at hy
        rw [HXY.out.1, HXY.out.2] at hy
        clear hb2 hR
        gi_wp2
        refine ⟨fun h => (by cases h), HR.out.mono ?_⟩
        rintro e W3 (⟨rfl, hJ4, hk4⟩ | ⟨rfl, hJx4⟩)
        · gi_wp2
          go_roundw
          case rel => exact ⟨k + 1, by omega, by go_num, by rw [HXY.out.2], by rw [HT.out]; exact hJ4, (HK0.out.trans (HK2.out.mono fun _ _ _ => trivial)).trans hk4⟩
          case measure => simp [intOf]; omega
        · gi_wp2
          refine bodyPost_ret (results_none rfl _ _ _) rfl ?_
          exact ⟨⟨_, rfl⟩, .inr ⟨_, HPR.out, hJx4⟩⟩
    · obtain rfl : k = n := by omega
      gi_wp2
      go_end0
      exact ⟨⟨_, rfl⟩, .inl hJ⟩

theorem spansF_tells (q bF bM bS c1 c2 : Nat) (s : Nat → Int) (f : Int) (n : Nat) (hs : ∀ k, k < n → 0 ≤ s k ∧ s k ≤ 2000) (hf : 0 ≤ f ∧ f ≤ 2) (hn : n ≤ 1000) (U : Nat → Prop) (hU : U bF ∧ U bM ∧ U bS) (w : World) (hUw : ∀ k, U k → k < w.heap.size)
    (cF : w.cell? ⟨bF, 0, none⟩ = some (.int .i64 f)) (cM : w.cell? ⟨bM, 0, none⟩ = some (.int .i64 (n : Int))) (cS : w.cell? ⟨bS, 0, none⟩ = some (.func (.func 40) #[] #[.pointer (some ⟨c1, 0, none⟩), .pointer (some ⟨c2, 0, none⟩)]))
    (hZ : ∀ k, k < n → ∀ X, Keeps U w X → Calls Try.prog 40 #[.int .i64 (k : Int), .pointer (some ⟨c1, 0, none⟩), .pointer (some ⟨c2, 0, none⟩)] X fun e w' => e = .returned (.int .i64 (s k)) ∧ Below X.heap.size X w') :
    TellsX Fence.wide q Try.prog 60 #[.pointer (some ⟨bF, 0, none⟩), .pointer (some ⟨bM, 0, none⟩), .pointer (some ⟨bS, 0, none⟩)] (spE s f) (fun _ k => U k) (fun _ _ => True) (told s n) w := by
  intro l J Jx W hb hJ hJx hY h0
  have hK : Keeps U w W := Keeps.of_below hb (fun k hk _ => hUw k hk)
  exact spansF_in q l bF bM bS c1 c2 s f n hs hf hn J Jx U hU hJ W
    (fun pre x W1 h1 h2 => (hY pre x W1 h1 h2).mono fun e W' h => h.elim (fun h => .inl h) (fun h => .inr ⟨h.1, h.2.1⟩))
    (hK.cell hU.1 cF) (hK.cell hU.2.1 cM) (hK.cell hU.2.2 cS) (fun k hk X hX => hZ k hk X (hK.trans hX)) h0

set_option maxRecDepth 100000 in
set_option maxHeartbeats 4000000 in
theorem spansD_in (q l bF bM bS c1 : Nat) (s : Nat → Int) (f : Int) (n : Nat) (hs : ∀ k, k < n → 0 ≤ s k ∧ s k ≤ 2000) (hf : 0 ≤ f ∧ f ≤ 2) (hn : n ≤ 1000) (J Jx : List Nat → World → Prop) (U : Nat → Prop) (hU : U bF ∧ U bM ∧ U bS)
    (hJ : ∀ t X Y, J t X → Keeps (fun _ => True) X Y → J t Y) (W : World)
    (hY : ∀ pre x W1, J pre W1 → pre ++ [x] <+: told s n → YieldAt Fence.wide (q - 1) Try.prog l (spE s f x) W1 fun e W' =>
      (e = .returned (.bool true) ∧ J (pre ++ [x]) W' ∧ Keeps U W1 W') ∨ (e = .returned (.bool false) ∧ Jx (pre ++ [x]) W'))
    (cF : W.cell? ⟨bF, 0, none⟩ = some (.int .i64 f)) (cM : W.cell? ⟨bM, 0, none⟩ = some (.int .i64 (n : Int))) (cS : W.cell? ⟨bS, 0, none⟩ = some (.func (.func 43) #[] #[.pointer (some ⟨c1, 0, none⟩)]))
    (hZ : ∀ k, k < n → ∀ X, Keeps U W X → Calls Try.prog 43 #[.int .i64 (k : Int), .pointer (some ⟨c1, 0, none⟩)] X fun e w' => e = .returned (.int .i64 (s k)) ∧ Below X.heap.size X w') (h0 : J [] W) :
    CallsIn Fence.wide q Try.prog 60 #[.func (.yield l) #[] #[], .pointer (some ⟨bF, 0, none⟩), .pointer (some ⟨bM, 0, none⟩), .pointer (some ⟨bS, 0, none⟩)] W fun e W' => (∃ v, e = .returned v) ∧
      (J (told s n) W' ∨ ∃ pre, pre <+: told s n ∧ Jx pre W') := by
  have h0' : J (told s 0) W := h0
  have hst0 : stV s f 0 = f := rfl
  have HS := Lib.hid hs
  have HY := Lib.hid hY
  have HJ := Lib.hid hJ
  have HZ := Lib.hid hZ
  have HU := Lib.hid hU
  have HC := Lib.hid (show ∀ X, Keeps U W X → X.cell? ⟨bF, 0, none⟩ = some (.int .i64 f) ∧ X.cell? ⟨bM, 0, none⟩ = some (.int .i64 (n : Int)) ∧ X.cell? ⟨bS, 0, none⟩ = some (.func (.func 43) #[] #[.pointer (some ⟨c1, 0, none⟩)]) from fun X h => ⟨h.cell hU.1 cF, h.cell hU.2.1 cM, h.cell hU.2.2 cS⟩)
  have HSV := Lib.hid (fun k hk => stV_in (f := f) hs k hk)
  have HST := Lib.hid (fun k => show stV s f (k + 1) = stV s f k + s k from rfl)
  clear hs hY hJ hZ hU h0 cS
  refine callsIn_of_wp Try.func60 rfl trivial ?_ rfl
  simp only [Try.ntmps60, List.size_toArray, List.length_cons, List.length_nil, Nat.reduceAdd, Nat.reduceSub, Array.replicate_succ, Array.replicate_zero, List.push_toArray, List.append_toArray, List.nil_append, List.cons_append]
  gi_wp2
  gi_loopw [5, 10] (fun st i wr => ∃ k : Nat, k ≤ n ∧ i = .int .i64 k ∧ st = .int .i64 (stV s f k) ∧ J (told s k) wr ∧ Keeps U W wr) (fun _ i _ => n - (intOf i).toNat)
  case atStart => exact ⟨0, Nat.zero_le _, rfl, by rw [hst0], h0', Keeps.refl _ _⟩
  case round =>
    obtain ⟨k, hk, rfl, rfl, hJ, hK⟩ := hrel
    have hv := HSV.out k hk
    obtain ⟨_, _, cS⟩ := HC.out wr hK
    by_cases hlt : k < n
    · have hkI : (k : Int) < (n : Int) := by omega
      have hv2 := HSV.out (k + 1) (by omega)
      have hsz := HS.out k hlt
      have hst := HST.out k
      have hsz9 : (s k = 0) ∨ (0 < s k) := by omega
      have HP := Lib.hid hsz9
      have HTK := Lib.hid (@told_take s k)
      have HTS := Lib.hid (@told_skip s k)
      obtain ⟨x, hx⟩ : ∃ x, stV s f k = x := ⟨_, rfl⟩
      obtain ⟨y, hy⟩ : ∃ y, stV s f (k + 1) = y := ⟨_, rfl⟩
      obtain ⟨z, hz⟩ : ∃ z, s k = z := ⟨_, rfl⟩
      have HCA := Lib.hid (HZ.out k hlt wr hK)
      rw [hx] at hv hst ⊢
      rw [hy] at hv2 hst
      rw [hz] at hsz hst HP HCA HTK HTS hsz9
      have hsum : IntKind.i64.wrap (x + z) = y := by rw [IntWalk.i64_in _ (by omega)]; omega
      have HXY := Lib.hid (show stV s f k = x ∧ stV s f (k + 1) = y from ⟨hx, hy⟩)
      have HJ0 := Lib.hid hJ
      have HK0 := Lib.hid hK
      have HN := Lib.hid (show k + 1 ≤ n ∧ n ≤ 1000 from ⟨hlt, hn⟩)
      have HE := Lib.hid hst
      have hv9 := hv
      clear hx hy hz hv hv2 hJ hK hst
      rcases hsz9 with rfl | hpos
      · have hxy : ¬ x < y := by have := HE.out; omega
        have hw9 : wrap64 x = x := IntWalk.wrap64_in x (by omega)
        have hxx : ¬ x < x := by omega
        obtain rfl : y = x := by have := HE.out; omega
        gi_wp2
        refine ⟨trivial, fun h => (by cases h), (callsIn_wide.2 HCA.out).mono ?_⟩
        rintro e w2 ⟨rfl, hb2⟩
        have HK2 := Lib.hid (show Keeps (fun _ => True) wr w2 from Keeps.of_below hb2 (fun _ _ h => h))
        clear hb2
        gi_wp2
        refine ⟨fun _ h => (by cases h), ?_⟩
        gi_wp2
        go_roundw
        case rel => exact ⟨k + 1, by omega, by go_num, by rw [HXY.out.2], by rw [HTS.out (by omega)]; exact HJ.out _ _ _ HJ0.out HK2.out, HK0.out.trans (HK2.out.mono fun _ _ _ => trivial)⟩
        case measure => simp [intOf]; omega
      · have hxy : x < y := by have := HE.out; omega
        have HT := Lib.hid (HTK.out hpos)
        have HPR := Lib.hid (show told s k ++ [k] <+: told s n by rw [← HT.out]; exact told_pre hlt)
        gi_wp2
        refine ⟨trivial, fun h => (by cases h), (callsIn_wide.2 HCA.out).mono ?_⟩
        rintro e w2 ⟨rfl, hb2⟩
        have HK2 := Lib.hid (show Keeps (fun _ => True) wr w2 from Keeps.of_below hb2 (fun _ _ h => h))
        have HJ2 := Lib.hid (HJ.out _ _ _ HJ0.out HK2.out)
        obtain ⟨fnI, tmps, assign, body, hy, hR⟩ := HY.out _ k w2 HJ2.out HPR.out
        have HR := Lib.hid hR
        unfold spE at hy
        rw [HXY.out.1, HXY.out.2] at hy
        clear hb2 hR
        gi_wp2
        refine ⟨fun h => (by cases h), HR.out.mono ?_⟩
        rintro e W3 (⟨rfl, hJ4, hk4⟩ | ⟨rfl, hJx4⟩)
        · gi_wp2
          go_roundw
          case rel => exact ⟨k + 1, by omega, by go_num, by rw [HXY.out.2], by rw [HT.out]; exact hJ4, (HK0.out.trans (HK2.out.mono fun _ _ _ => trivial)).trans hk4⟩
          case measure => simp [intOf]; omega
        · gi_wp2
          refine bodyPost_ret (results_none rfl _ _ _) rfl ?_
          exact ⟨⟨_, rfl⟩, .inr ⟨_, HPR.out, hJx4⟩⟩
    · obtain rfl : k = n := by omega
      gi_wp2
      go_end0
      exact ⟨⟨_, rfl⟩, .inl hJ⟩

theorem spansD_tells (q bF bM bS c1 : Nat) (s : Nat → Int) (f : Int) (n : Nat) (hs : ∀ k, k < n → 0 ≤ s k ∧ s k ≤ 2000) (hf : 0 ≤ f ∧ f ≤ 2) (hn : n ≤ 1000) (U : Nat → Prop) (hU : U bF ∧ U bM ∧ U bS) (w : World) (hUw : ∀ k, U k → k < w.heap.size)
    (cF : w.cell? ⟨bF, 0, none⟩ = some (.int .i64 f)) (cM : w.cell? ⟨bM, 0, none⟩ = some (.int .i64 (n : Int))) (cS : w.cell? ⟨bS, 0, none⟩ = some (.func (.func 43) #[] #[.pointer (some ⟨c1, 0, none⟩)]))
    (hZ : ∀ k, k < n → ∀ X, Keeps U w X → Calls Try.prog 43 #[.int .i64 (k : Int), .pointer (some ⟨c1, 0, none⟩)] X fun e w' => e = .returned (.int .i64 (s k)) ∧ Below X.heap.size X w') :
    TellsX Fence.wide q Try.prog 60 #[.pointer (some ⟨bF, 0, none⟩), .pointer (some ⟨bM, 0, none⟩), .pointer (some ⟨bS, 0, none⟩)] (spE s f) (fun _ k => U k) (fun _ _ => True) (told s n) w := by
  intro l J Jx W hb hJ hJx hY h0
  have hK : Keeps U w W := Keeps.of_below hb (fun k hk _ => hUw k hk)
  exact spansD_in q l bF bM bS c1 s f n hs hf hn J Jx U hU hJ W
    (fun pre x W1 h1 h2 => (hY pre x W1 h1 h2).mono fun e W' h => h.elim (fun h => .inl h) (fun h => .inr ⟨h.1, h.2.1⟩))
    (hK.cell hU.1 cF) (hK.cell hU.2.1 cM) (hK.cell hU.2.2 cS) (fun k hk X hX => hZ k hk X (hK.trans hX)) h0
end Go.Proofs.Ytbcabomblfehlab.Bo
