/-
  WALKS of layer 29: what the iterators are made of.
-/
import Derived.Test.YtbcabomblfehlabUb
namespace Go.Proofs.Ytbcabomblfehlab.Bo
open Go.RowKit Go.Maps
open Mem Rf
set_option linter.unusedSimpArgs false
set_option linter.unusedVariables false

theorem Wd.kept {α : Type} {k : Nat} {enc : α → List Value} {U : Nat → Prop} {w w' : World} {B : Nat} {A : Option Addr} {n c : Nat} {l : List α} (h : Wd k enc w B A n c l) (hk : Keeps U w w') (hU : ∀ j, j < B → U j) (hB : B ≤ w.heap.size) : Wd k enc w' B A n c l :=
  h.keep fun p hp => World.cell?_of_block (hk.block _ (hU _ hp) (by omega))

theorem spans_any (w : World) (f n : Int) (g : Nat) (l : Array Value) :
    Calls Try.prog 39 #[.int .i64 f, .int .i64 n, .func (.func g) #[] l] w fun e w' => e = .returned (.func (.func 60) #[] #[.pointer (some ⟨w.heap.size, 0, none⟩), .pointer (some ⟨w.heap.size + 1, 0, none⟩), .pointer (some ⟨w.heap.size + 2, 0, none⟩)]) ∧
      w' = ((w.alloc (.cells #[.int .i64 f] 3)).alloc (.cells #[.int .i64 n] 3)).alloc (.cells #[.func (.func g) #[] l] 100) := by
  go_enter Try.func39, Try.ntmps39
  go_wp2
  go_ret
  exact ⟨rfl, rfl⟩

/-- The cells of the iterator over functions. -/
structure ItF (w : World) (m : Nat) (P : Pgm) (p : Pn) : Prop where
  bP : Blk w m 30 #[.slice P.fA P.fn P.fc, .slice P.dA P.dn P.dc, .int .i64 P.entry]
  bp : Blk w (m + 1) 26 #[.slice p.kA p.kn p.kc, .slice p.cA p.cn p.cc]
  cF : Blk w (m + 2) 3 #[.int .i64 2]
  cM : Blk w (m + 3) 3 #[.int .i64 (P.fn : Int)]
  cS : Blk w (m + 4) 100 #[.func (.func 40) #[] #[.pointer (some ⟨m, 0, none⟩), .pointer (some ⟨m + 1, 0, none⟩)]]
def itV (m : Nat) : Value := .func (.func 60) #[] #[.pointer (some ⟨m + 2, 0, none⟩), .pointer (some ⟨m + 3, 0, none⟩), .pointer (some ⟨m + 4, 0, none⟩)]
structure ItD (w : World) (m : Nat) (P : Pgm) : Prop where
  bP : Blk w m 30 #[.slice P.fA P.fn P.fc, .slice P.dA P.dn P.dc, .int .i64 P.entry]
  cF : Blk w (m + 1) 3 #[.int .i64 0]
  cM : Blk w (m + 2) 3 #[.int .i64 (P.dn : Int)]
  cS : Blk w (m + 3) 100 #[.func (.func 43) #[] #[.pointer (some ⟨m, 0, none⟩)]]
def itD (m : Nat) : Value := .func (.func 60) #[] #[.pointer (some ⟨m + 1, 0, none⟩), .pointer (some ⟨m + 2, 0, none⟩), .pointer (some ⟨m + 3, 0, none⟩)]

theorem functions_any (w : World) (P : Pgm) (p : Pn) (hfn : P.fn ≤ 1000) :
    Calls Try.prog 25 #[pgV P, pnV p] w fun e w' => e = .returned (itV w.heap.size) ∧ ItF w' w.heap.size P p ∧ w'.heap.size = w.heap.size + 5 ∧ Below w.heap.size w w' := by
  have hmk : ∀ w1 w2 : World, w1 = (w.alloc (.cells #[.slice P.fA P.fn P.fc, .slice P.dA P.dn P.dc, .int .i64 P.entry] 30)).alloc (.cells #[.slice p.kA p.kn p.kc, .slice p.cA p.cn p.cc] 26) →
      w2 = ((w1.alloc (.cells #[.int .i64 2] 3)).alloc (.cells #[.int .i64 (P.fn : Int)] 3)).alloc (.cells #[.func (.func 40) #[] #[.pointer (some ⟨w.heap.size, 0, none⟩), .pointer (some ⟨w.heap.size + 1, 0, none⟩)]] 100) →
      ItF w2 w.heap.size P p ∧ w2.heap.size = w.heap.size + 5 ∧ Below w.heap.size w w2 := by
    rintro w1 w2 rfl rfl
    refine ⟨⟨?_, ?_, ?_, ?_, ?_⟩, by simp, ?_⟩
    all_goals (repeat' (first | exact Below.refl _ _ | exact By.Blk.at_ _ _ (by (try simp only [World.size_alloc]); (first | done | omega)) | refine Blk.alloc ?_ _ | refine Below.alloc ?_ (by (try simp only [World.size_alloc]); (first | done | omega)) _))
  have HMK := Lib.hid hmk
  obtain ⟨fA, fn, fc, fs, dA, dn, dc, ds, en, cs⟩ := P
  obtain ⟨kA, kn, kc, ks, cA, cn, cc, cl⟩ := p
  unfold pgV pnV itV
  dsimp only at HMK hfn ⊢
  obtain ⟨W0, hW0⟩ : ∃ W0, (w.alloc (.cells #[.slice fA fn fc, .slice dA dn dc, .int .i64 en] 30)).alloc (.cells #[.slice kA kn kc, .slice cA cn cc] 26) = W0 := ⟨_, rfl⟩
  have hs0 : W0.heap.size = w.heap.size + 2 := by rw [← hW0]; simp
  have HS0 := Lib.hid hs0
  have HW := Lib.hid hW0
  have hbP : Blk W0 w.heap.size 30 #[.slice fA fn fc, .slice dA dn dc, .int .i64 en] := by rw [← hW0]; exact (Blk.new _ _ _).alloc _
  have x0 : W0.cell? ⟨w.heap.size, 0, none⟩ = some (.slice fA fn fc) := hbP.cell 0
  clear hbP hmk hs0
  go_enter Try.func25, Try.ntmps25
  go_wp2_with (go_at_call 39; refine (spans_any W0 _ _ _ _).mono ?_; rintro e w2 ⟨rfl, h2⟩; have H2 := Lib.hid h2; clear h2)
  have hfin := HMK.out _ _ HW.out.symm H2.out
  have hs := HS0.out
  go_ret
  exact ⟨by rw [hs]; rfl, hfin⟩

theorem datas_any29 (w : World) (P : Pgm) (hdn : P.dn ≤ 1000) :
    Calls Try.prog 28 #[pgV P] w fun e w' => e = .returned (itD w.heap.size) ∧ ItD w' w.heap.size P ∧ w'.heap.size = w.heap.size + 4 ∧ Below w.heap.size w w' := by
  have hmk : ∀ w1 w2 : World, w1 = w.alloc (.cells #[.slice P.fA P.fn P.fc, .slice P.dA P.dn P.dc, .int .i64 P.entry] 30) →
      w2 = ((w1.alloc (.cells #[.int .i64 0] 3)).alloc (.cells #[.int .i64 (P.dn : Int)] 3)).alloc (.cells #[.func (.func 43) #[] #[.pointer (some ⟨w.heap.size, 0, none⟩)]] 100) →
      ItD w2 w.heap.size P ∧ w2.heap.size = w.heap.size + 4 ∧ Below w.heap.size w w2 := by
    rintro w1 w2 rfl rfl
    refine ⟨⟨?_, ?_, ?_, ?_⟩, by simp, ?_⟩
    all_goals (repeat' (first | exact Below.refl _ _ | exact By.Blk.at_ _ _ (by (try simp only [World.size_alloc]); (first | done | omega)) | refine Blk.alloc ?_ _ | refine Below.alloc ?_ (by (try simp only [World.size_alloc]); (first | done | omega)) _))
  have HMK := Lib.hid hmk
  obtain ⟨fA, fn, fc, fs, dA, dn, dc, ds, en, cs⟩ := P
  unfold pgV itD
  dsimp only at HMK hdn ⊢
  obtain ⟨W0, hW0⟩ : ∃ W0, w.alloc (.cells #[.slice fA fn fc, .slice dA dn dc, .int .i64 en] 30) = W0 := ⟨_, rfl⟩
  have hs0 : W0.heap.size = w.heap.size + 1 := by rw [← hW0]; simp
  have HS0 := Lib.hid hs0
  have HW := Lib.hid hW0
  have hbP : Blk W0 w.heap.size 30 #[.slice fA fn fc, .slice dA dn dc, .int .i64 en] := by rw [← hW0]; exact Blk.new _ _ _
  have x1 : W0.cell? ⟨w.heap.size, 1, none⟩ = some (.slice dA dn dc) := hbP.cell 1
  clear hbP hmk hs0
  go_enter Try.func28, Try.ntmps28
  go_wp2_with (go_at_call 39; refine (spans_any W0 _ _ _ _).mono ?_; rintro e w2 ⟨rfl, h2⟩; have H2 := Lib.hid h2; clear h2)
  have hfin := HMK.out _ _ HW.out.symm H2.out
  have hs := HS0.out
  go_ret
  exact ⟨by rw [hs]; rfl, hfin⟩

/-- What the iterator over functions reads. -/
structure RdF (w : World) (B : Nat) (P : Pgm) (p : Pn) : Prop where
  fr : Wd 13 encGf w B P.fA P.fn P.fc P.fs
  k : Wd 1 encB w B p.kA p.kn p.kc p.ks
  c : Wd 1 encI w B p.cA p.cn p.cc p.cs
  fn : P.fn ≤ 1000
  cd : ∀ a, a < P.fn → (gfAt P.fs a).F.code.2.1 ≤ 1000
theorem RdF.kept {U : Nat → Prop} {w w' : World} {B : Nat} {P : Pgm} {p : Pn} (h : RdF w B P p) (hk : Keeps U w w') (hU : ∀ j, j < B → U j) (hB : B ≤ w.heap.size) : RdF w' B P p := ⟨h.fr.kept hk hU hB, h.k.kept hk hU hB, h.c.kept hk hU hB, h.fn, h.cd⟩
theorem RdF.more {w : World} {B B2 : Nat} {P : Pgm} {p : Pn} (h : RdF w B P p) (hB : B ≤ B2) : RdF w B2 P p := ⟨h.fr.more hB, h.k.more hB, h.c.more hB, h.fn, h.cd⟩
theorem RdF.below {w w' : World} {B : Nat} {P : Pgm} {p : Pn} (h : RdF w B P p) (hb : Below B w w') : RdF w' B P p := ⟨h.fr.below hb, h.k.below hb, h.c.below hb, h.fn, h.cd⟩
theorem RdF.of {w : World} {P : Pgm} {p : Pn} (hfr : Wd 13 encGf w w.heap.size P.fA P.fn P.fc P.fs) (hp : PnR w p) (hfn : P.fn ≤ 1000) (hcd : ∀ a, a < P.fn → (gfAt P.fs a).F.code.2.1 ≤ 1000) : RdF w w.heap.size P p := ⟨hfr, hp.k, hp.c, hfn, hcd⟩
structure RdD (w : World) (B : Nat) (P : Pgm) : Prop where
  dr : Wd 7 encGd w B P.dA P.dn P.dc P.ds
  dn : P.dn ≤ 1000
  wd : ∀ a, a < P.dn → (gdAt P.ds a).D.words.2.1 ≤ 1000
theorem RdD.kept {U : Nat → Prop} {w w' : World} {B : Nat} {P : Pgm} (h : RdD w B P) (hk : Keeps U w w') (hU : ∀ j, j < B → U j) (hB : B ≤ w.heap.size) : RdD w' B P := ⟨h.dr.kept hk hU hB, h.dn, h.wd⟩
theorem RdD.below {w w' : World} {B : Nat} {P : Pgm} (h : RdD w B P) (hb : Below B w w') : RdD w' B P := ⟨h.dr.below hb, h.dn, h.wd⟩

theorem fsize_any (W : World) (m B : Nat) (P : Pgm) (p : Pn) (hI : ItF W m P p) (hr : RdF W B P p) (hB : B ≤ W.heap.size) (k : Nat) :
    Calls Try.prog 40 #[.int .i64 (k : Int), .pointer (some ⟨m, 0, none⟩), .pointer (some ⟨m + 1, 0, none⟩)] W fun e w' => e = .returned (.int .i64 (szf P p k)) ∧ Below W.heap.size W w' := by
  have HS := Lib.hid (size_any W P (hr.fr.more hB) hr.fn hr.cd p ⟨hr.k.more hB, hr.c.more hB⟩ (k : Int))
  have hbP := hI.bP
  have hbp := hI.bp
  unfold szf
  generalize sizeV P p (k : Int) = z at HS ⊢
  clear hI hr
  obtain ⟨fA, fn, fc, fs, dA, dn, dc, ds, en, cs⟩ := P
  obtain ⟨kA, kn, kc, ks, cA, cn, cc, cl⟩ := p
  unfold pgV pnV at HS
  dsimp only at HS hbP hbp
  have x0 : W.cell? ⟨m, 0, none⟩ = some (.slice fA fn fc) := hbP.cell 0
  have x1 : W.cell? ⟨m, 1, none⟩ = some (.slice dA dn dc) := hbP.cell 1
  have x2 : W.cell? ⟨m, 2, none⟩ = some (.int .i64 en) := hbP.cell 2
  have y0 : W.cell? ⟨m + 1, 0, none⟩ = some (.slice kA kn kc) := hbp.cell 0
  have y1 : W.cell? ⟨m + 1, 1, none⟩ = some (.slice cA cn cc) := hbp.cell 1
  clear hbP hbp
  go_enter Try.func40, Try.ntmps40
  go_wp2_with (go_at_call 41; refine HS.out.mono ?_; rintro e w2 ⟨rfl, h2⟩; have H2 := Lib.hid h2; clear h2)
  go_ret
  exact ⟨rfl, H2.out⟩

theorem dsize_any (W : World) (m B : Nat) (P : Pgm) (hI : ItD W m P) (hr : RdD W B P) (k : Nat) (hk : k < P.dn) :
    Calls Try.prog 43 #[.int .i64 (k : Int), .pointer (some ⟨m, 0, none⟩)] W fun e w' => e = .returned (.int .i64 (dzf P k)) ∧ Below W.heap.size W w' := by
  have hbP := hI.bP
  obtain ⟨ad, hA, hb9, _, hc⟩ := gd_at hr.dr hk
  have c5 := hc 3 _ rfl
  have hw := hr.wd k hk
  have hdn := hr.dn
  unfold dzf
  clear hI hr hc
  obtain ⟨fA, fn, fc, fs, dA, dn, dc, ds, en, cs⟩ := P
  dsimp only at hbP hA c5 hw hk hdn ⊢
  subst hA
  obtain ⟨⟨xA, xn, xc⟩, hx⟩ : ∃ x, (gdAt ds k).D.words = x := ⟨_, rfl⟩
  rw [hx] at c5 hw ⊢
  unfold slV at c5
  dsimp only at c5 hw ⊢
  have x1 : W.cell? ⟨m, 1, none⟩ = some (.slice (some ad) dn dc) := hbP.cell 1
  have hkI : (k : Int) < (dn : Int) := by omega
  have hk0 : (0 : Int) ≤ (k : Int) := by omega
  have hsum : IntKind.i64.wrap (1 + (xn : Int)) = 1 + (xn : Int) := IntWalk.i64_in _ (by omega)
  clear hbP hx
  go_enter Try.func43, Try.ntmps43
  go_wp2_with fail
  go_ret
  exact ⟨rfl, Below.refl _ _⟩

/-- The blocks that an iterator reads. -/
def InIt (B m c k : Nat) : Prop := k < B ∨ (m ≤ k ∧ k < m + c)
theorem functions_tells (q : Nat) (w : World) (m B : Nat) (P : Pgm) (p : Pn) (hI : ItF w m P p) (hr : RdF w B P p) (hB : B ≤ w.heap.size) :
    TellsX Fence.wide q Try.prog 60 #[.pointer (some ⟨m + 2, 0, none⟩), .pointer (some ⟨m + 3, 0, none⟩), .pointer (some ⟨m + 4, 0, none⟩)] (spE (szf P p) 2) (fun _ k => InIt B m 5 k) (fun _ _ => True) (told (szf P p) P.fn) w := by
  have h4 := hI.cS.lt
  refine spansF_tells q (m + 2) (m + 3) (m + 4) m (m + 1) (szf P p) 2 P.fn (szf_in hr.cd) (by omega) hr.fn (InIt B m 5) ⟨.inr (by omega), .inr (by omega), .inr (by omega)⟩ w (fun k hk => by rcases hk with h | h <;> omega)
    (hI.cF.cell 0) (hI.cM.cell 0) (hI.cS.cell 0) (fun k hk X hX => ?_)
  have hb : ∀ j, InIt B m 5 j → j < w.heap.size → X.heap[j]? = w.heap[j]? := hX.block
  refine fsize_any X m B P p ⟨?_, ?_, ?_, ?_, ?_⟩ (hr.kept hX (fun j hj => .inl hj) hB) (Nat.le_trans hB hX.size) k
  · exact (hb m (.inr (by omega)) (by omega)).trans hI.bP
  · exact (hb (m + 1) (.inr (by omega)) (by omega)).trans hI.bp
  · exact (hb (m + 2) (.inr (by omega)) (by omega)).trans hI.cF
  · exact (hb (m + 3) (.inr (by omega)) (by omega)).trans hI.cM
  · exact (hb (m + 4) (.inr (by omega)) (by omega)).trans hI.cS
theorem datas_tells (q : Nat) (w : World) (m B : Nat) (P : Pgm) (hI : ItD w m P) (hr : RdD w B P) (hB : B ≤ w.heap.size) :
    TellsX Fence.wide q Try.prog 60 #[.pointer (some ⟨m + 1, 0, none⟩), .pointer (some ⟨m + 2, 0, none⟩), .pointer (some ⟨m + 3, 0, none⟩)] (spE (dzf P) 0) (fun _ k => InIt B m 4 k) (fun _ _ => True) (told (dzf P) P.dn) w := by
  have h4 := hI.cS.lt
  refine spansD_tells q (m + 1) (m + 2) (m + 3) m (dzf P) 0 P.dn (dzf_in hr.wd) (by omega) hr.dn (InIt B m 4) ⟨.inr (by omega), .inr (by omega), .inr (by omega)⟩ w (fun k hk => by rcases hk with h | h <;> omega)
    (hI.cF.cell 0) (hI.cM.cell 0) (hI.cS.cell 0) (fun k hk X hX => ?_)
  have hb : ∀ j, InIt B m 4 j → j < w.heap.size → X.heap[j]? = w.heap[j]? := hX.block
  refine dsize_any X m B P ⟨?_, ?_, ?_, ?_⟩ (hr.kept hX (fun j hj => .inl hj) hB) k hk
  · exact (hb m (.inr (by omega)) (by omega)).trans hI.bP
  · exact (hb (m + 1) (.inr (by omega)) (by omega)).trans hI.cF
  · exact (hb (m + 2) (.inr (by omega)) (by omega)).trans hI.cM
  · exact (hb (m + 3) (.inr (by omega)) (by omega)).trans hI.cS
end Go.Proofs.Ytbcabomblfehlab.Bo
