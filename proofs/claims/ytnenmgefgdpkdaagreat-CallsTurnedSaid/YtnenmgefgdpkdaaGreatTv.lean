/-
  WALK of layer 25's law: CallsTurned: the program whose instructions stand the other way round.
-/
import Derived.Test.YtnenmgefgdpkdaaGreatZa
import Derived.Test.YtnenmgefgdpkdaaGreatTu
import Derived.Test.YtnenmgefgdpkdaaGreatTq
namespace Go.Proofs.YtnenmgefgdpkdaaGreat.Bo
open Go.RowKit Go.Maps
open Mem Rf
set_option linter.unusedSimpArgs false
set_option linter.unusedVariables false

theorem FnI.on {w w' : World} {F : Fc} {x : By.Fn} (h : FnI w F x) (hb : Below w.heap.size w w') : FnI w' F x := ⟨h.fw.on hb, h.hk, h.hpd, h.hns, h.hf, h.ht, h.bd, h.wf⟩
theorem DtI.on {w w' : World} {D : Dc} {ws : List Int} {rs : List By.Rl} (h : DtI w D ws rs) (hb : Below w.heap.size w w') : DtI w' D ws rs := ⟨h.hw.on hb, h.hl, h.hr.on hb, h.bd⟩
theorem ObI.on {w w' : World} {o : Oj} {xs : Nat → By.Fn} {ws : Nat → List Int} {rs : Nat → List By.Rl} (h : ObI w o xs ws rs) (hb : Below w.heap.size w w') : ObI w' o xs ws rs := ⟨h.mem.on hb, h.kinds, fun k hk => (h.fns k hk).on hb, fun k hk => (h.dats k hk).on hb⟩
theorem OjsI.on {w w' : World} {A : Option Addr} {n c : Nat} {os : List Oj} {xs : Nat → Nat → By.Fn} {ws : Nat → Nat → List Int} {rs : Nat → Nat → List By.Rl} (h : OjsI w A n c os xs ws rs) (hb : Below w.heap.size w w') : OjsI w' A n c os xs ws rs := ⟨h.mem.on hb, fun i hi => (h.each i hi).on hb⟩
theorem blk2 {W : World} {t u : TypeId} {a c : Array Value} : Blk ((W.alloc (.cells a t)).alloc (.cells c u)) W.heap.size t a ∧ Blk ((W.alloc (.cells a t)).alloc (.cells c u)) (W.heap.size + 1) u c := by
  refine ⟨(Blk.new _ _ _).alloc _, ?_⟩
  have := Blk.new (W.alloc (.cells a t)) u c
  rwa [World.size_alloc] at this
theorem rowf_few {n m : Nat} {f : Nat → List Int} (h : ∀ a, (f a).length ≤ m) (i : Nat) : (By.rowOf ((List.range n).map f) i).length ≤ m := by
  unfold By.rowOf
  rw [List.getD_eq_getElem?_getD, List.getElem?_map]
  cases e : (List.range n)[i]? with
  | none => simp
  | some a => simpa using h a
theorem list_len {n : Nat} {f : Nat → List Int} : ((List.range n).map f).length = n := by rw [List.length_map, List.length_range]
/-- What is known of a list of lists that is told. -/
def LsA (n : Nat) (L : List (List Int)) : Prop := L.length = n ∧ ∀ i, (By.rowOf L i).length ≤ 100000
theorem ls_of {n m : Nat} {f : Nat → List Int} (h : ∀ a, (f a).length ≤ m) (hm : m ≤ 100000) : LsA n ((List.range n).map f) := ⟨list_len, fun i => Nat.le_trans (rowf_few h i) hm⟩
theorem rows_gr {w : World} {n : Nat} {L : List (List Int)} {e : Ending} {w' : World} (h : RowsA w n L e w') (hL : LsA n L) (hn : n ≤ 24) : ∃ A c, e = .returned (.slice A n c) ∧ By.Gr w' w'.heap.size (.slice A n c) L ∧ Below w.heap.size w w' := by
  obtain ⟨rb, base, e1, ho, _, _, hb⟩ := h
  exact ⟨_, _, e1, gr_of ho hL.1 hn, hb⟩
theorem own_gr {w : World} {n : Nat} {L : List (List Int)} {e : Ending} {w' : World} (h : GOwn w L e w') (hL : LsA n L) : ∃ A c, e = .returned (.slice A n c) ∧ By.Gr w' w'.heap.size (.slice A n c) L ∧ Below w.heap.size w w' := by
  obtain ⟨ov, e1, ho, hb⟩ := h
  obtain ⟨A, c, e2, hg⟩ := ho.gr
  rw [hL.1] at e2 hg
  subst e2
  exact ⟨A, c, e1, hg.more (Nat.le_refl _), hb⟩

theorem far_belowT {B : Nat} {w W : World} {b' j : Nat} {y : Value} (h : Below B w W) (hb : B ≤ b') : Below B w (W.setCell ⟨b', j, none⟩ y) := ⟨h.os, h.tape, h.output, by rw [show (W.setCell ⟨b', j, none⟩ y).heap.size = W.heap.size from by simp [World.setCell]]; exact h.size, fun k hk => (Below.heap_setCell _ ⟨b', j, none⟩ _ k (show k ≠ b' by omega)).trans (h.block k hk)⟩
theorem encIn_len (z : By.In5) : (By.encIn z).length = 5 := rfl
abbrev Tn := Gf × List By.In5
def tn0 : Tn := (gf0, [])
def tnAt (l : List Tn) (i : Nat) : Tn := l.getD i tn0
/-- What stands while the turned program is made: QB is its box. -/
structure TQ (w wr : World) (QB : Nat) (fs : List Gf) (cs : Nat → List By.In5) (dA : Option Addr) (dn dc : Nat) (en : Int) (v1 : Value) (ts : List Tn) : Prop where
  low : Below w.heap.size w wr
  box : Blk wr QB 29 #[v1, .slice dA dn dc, .int .i64 en]
  fr : wr.ownsRow (QB + 1) 49 13 v1 ts.length ((ts.map (·.1)).flatMap encGf)
  rows : ∀ t ∈ ts, wr.ownsRow (QB + 1) 51 5 (slV t.1.F.code) t.2.length (t.2.flatMap By.encIn) ∧ wr.ownsRow (QB + 1) 3 1 (slV t.1.R) t.1.refs.length (t.1.refs.flatMap encI)
  ok : ∀ j, j < ts.length → Turn (gfAt fs j) (tnAt ts j).1 (cs j) (tnAt ts j).2
  ge : w.heap.size ≤ QB
theorem TQ.on {w wr wy : World} {QB : Nat} {fs : List Gf} {cs : Nat → List By.In5} {dA : Option Addr} {dn dc : Nat} {en : Int} {v1 : Value} {ts : List Tn} (h : TQ w wr QB fs cs dA dn dc en v1 ts) (hb : Below wr.heap.size wr wy) : TQ w wy QB fs cs dA dn dc en v1 ts :=
  ⟨to_ h.low hb, h.box.below hb h.box.lt, own_on h.fr hb, fun t ht => ⟨own_on (h.rows t ht).1 hb, own_on (h.rows t ht).2 hb⟩, h.ok, h.ge⟩
/-- Another one is put behind. -/
theorem TQ.add {w wr w6 : World} {QB : Nat} {fs : List Gf} {cs : Nat → List By.In5} {dA : Option Addr} {dn dc : Nat} {en : Int} {v1 v' : Value} {ts : List Tn} (h : TQ w wr QB fs cs dA dn dc en v1 ts) (t : Tn)
    (hc : wr.ownsRow (QB + 1) 51 5 (slV t.1.F.code) t.2.length (t.2.flatMap By.encIn)) (hr : wr.ownsRow (QB + 1) 3 1 (slV t.1.R) t.1.refs.length (t.1.refs.flatMap encI)) (ht : Turn (gfAt fs ts.length) t.1 (cs ts.length) t.2) (o : Obj)
    (h2 : w6.ownsRow (QB + 1) 49 13 v' (ts.length + 1) ((ts.map (·.1)).flatMap encGf ++ encGf t.1)) (h3 : (wr.alloc o).grownBy w6 v1.ownBlock) :
    TQ w (w6.setCell ⟨QB, 0, none⟩ v') QB fs cs dA dn dc en v' (ts ++ [t]) ∧ w6.cell? ⟨QB, 0, none⟩ = some v1 ∧ w6.frozen? ⟨QB, 0, none⟩ = false := by
  have hA := h.on (alloc_ wr o)
  have hb := blk_grown hA.box h3 (own_ne hA.fr (by omega))
  refine ⟨⟨?_, hb.stored 0 v', ?_, ?_, ?_, h.ge⟩, hb.cell 0, hb.frozen 0⟩
  · exact far_belowT (hA.low.grown h3 hA.low.size fun k e => by have := (hA.fr.lt k e).1; have := h.ge; omega) h.ge
  · rw [List.length_append, List.map_append, List.flatMap_append]
    have e : ([t].map (·.1)).flatMap encGf = encGf t.1 := by simp
    rw [e]
    exact own_cell h2 _ _ (by show QB < QB + 1; omega)
  · intro x hx
    rcases List.mem_append.1 hx with hx | hx
    · exact ⟨own_cell (own_apart (hA.rows x hx).1 hA.fr (by decide) h3) _ _ (by show QB < QB + 1; omega), own_cell (own_apart (hA.rows x hx).2 hA.fr (by decide) h3) _ _ (by show QB < QB + 1; omega)⟩
    · obtain rfl := List.mem_singleton.1 hx
      exact ⟨own_cell (own_apart (own_on hc (alloc_ wr o)) hA.fr (by decide) h3) _ _ (by show QB < QB + 1; omega), own_cell (own_apart (own_on hr (alloc_ wr o)) hA.fr (by decide) h3) _ _ (by show QB < QB + 1; omega)⟩
  · intro j hj
    rw [List.length_append] at hj
    unfold tnAt
    by_cases e : j < ts.length
    · rw [List.getD_eq_getElem?_getD, List.getElem?_append_left e, ← List.getD_eq_getElem?_getD]
      exact h.ok j e
    · have : j = ts.length := by simp at hj; omega
      subst this
      rw [List.getD_eq_getElem?_getD, List.getElem?_append_right (Nat.le_refl _), Nat.sub_self]
      exact ht

theorem InAt_app {l : List By.In5} {x : By.In5} {k : Nat} : By.inAt (l ++ [x]) k = if k < l.length then By.inAt l k else if k = l.length then x else (0, 0, 0, 0, 0) := by
  unfold By.inAt
  rw [List.getD_eq_getElem?_getD, List.getD_eq_getElem?_getD]
  by_cases h : k < l.length
  · rw [if_pos h, List.getElem?_append_left h]
  · rw [if_neg h, List.getElem?_append_right (by omega)]
    by_cases e : k = l.length
    · subst e; rw [if_pos rfl, Nat.sub_self]; rfl
    · rw [if_neg e, List.getElem?_eq_none (by simp; omega)]; rfl
theorem getD_app {l : List Int} {x : Int} {k : Nat} : (l ++ [x]).getD k 0 = if k < l.length then l.getD k 0 else if k = l.length then x else 0 := by
  rw [List.getD_eq_getElem?_getD, List.getD_eq_getElem?_getD]
  by_cases h : k < l.length
  · rw [if_pos h, List.getElem?_append_left h]
  · rw [if_neg h, List.getElem?_append_right (by omega)]
    by_cases e : k = l.length
    · subst e; rw [if_pos rfl, Nat.sub_self]; rfl
    · rw [if_neg e, List.getElem?_eq_none (by simp; omega)]; rfl
theorem tn_in {ts : List Tn} {a : Nat} (h : a < ts.length) : tnAt ts a ∈ ts := by unfold tnAt; rw [List.getD_eq_getElem?_getD, List.getElem?_eq_getElem h]; exact List.getElem_mem h
theorem tn_gf {ts : List Tn} {a : Nat} (h : a < ts.length) : gfAt (ts.map (·.1)) a = (tnAt ts a).1 := by unfold gfAt tnAt; rw [List.getD_eq_getElem?_getD, List.getD_eq_getElem?_getD, List.getElem?_map, List.getElem?_eq_getElem h]; rfl
theorem TQ.pgr {w wr : World} {QB : Nat} {fA : Option Addr} {fn fc : Nat} {fs : List Gf} {cs : Nat → List By.In5} {dA : Option Addr} {dn dc : Nat} {ds : List Gd} {en : Int} {v1 : Value} {ts : List Tn} (h : TQ w wr QB fs cs dA dn dc en v1 ts) (hl : ts.length = fn)
    (hP : PgR wr ⟨fA, fn, fc, fs, dA, dn, dc, ds, en, cs⟩) (hlen : ∀ a, a < fn → (gfAt fs a).R.2.1 = (gfAt fs a).F.code.2.1 ∧ (gfAt fs a).F.code.2.1 ≤ 80 ∧ (gfAt fs a).refs.length = (gfAt fs a).F.code.2.1) :
    ∃ gA gc, v1 = .slice gA fn gc ∧ PgR wr ⟨gA, fn, gc, ts.map (·.1), dA, dn, dc, ds, en, fun a => (tnAt ts a).2⟩ ∧ Turned ⟨fA, fn, fc, fs, dA, dn, dc, ds, en, cs⟩ ⟨gA, fn, gc, ts.map (·.1), dA, dn, dc, ds, en, fun a => (tnAt ts a).2⟩ := by
  have hfr := h.fr
  rw [hl] at hfr
  obtain ⟨A, c, e⟩ := own_form hfr
  refine ⟨A, c, e, ⟨own_wd encGf_len (by rw [List.length_map, hl]) (by rw [← e]; exact hfr), hP.dr, fun i hi => ?_, hP.dats, hP.few⟩, ⟨rfl, rfl, rfl, fun a ha => ?_, fun a ha => (hlen a ha).1⟩⟩
  · dsimp only at hi ⊢
    have hi' : i < ts.length := by rw [hl]; exact hi
    rw [tn_gf hi']
    have hr := h.rows _ (tn_in hi')
    have ht := h.ok i hi'
    have hb := (hP.fns i hi).bd
    have hf := (hlen i hi).2.1
    dsimp only at hb
    obtain ⟨A1, c1, e1⟩ := own_form hr.1
    have e2 : (tnAt ts i).1.F.code.2.1 = (tnAt ts i).2.length := by
      have h9 : Value.slice (tnAt ts i).1.F.code.1 (tnAt ts i).1.F.code.2.1 (tnAt ts i).1.F.code.2.2 = .slice A1 (tnAt ts i).2.length c1 := e1
      injection h9
    refine ⟨own_wd encIn_len e2.symm (by have h3 := hr.1; rw [← e2] at h3; exact h3), (own_slV hr.2).2, ⟨by rw [ht.n]; exact hf, by rw [ht.r]; exact hf⟩, fun k => ?_⟩
    by_cases hk : k < (gfAt fs i).F.code.2.1
    · rw [ht.ca k hk]; exact hb _
    · have : By.inAt (tnAt ts i).2 k = (0, 0, 0, 0, 0) := by
        unfold By.inAt; rw [List.getD_eq_getElem?_getD, List.getElem?_eq_none (by rw [← e2, ht.n]; omega)]; rfl
      rw [this]; decide
  · dsimp only
    have ha' : a < ts.length := by rw [hl]; exact ha
    rw [tn_gf ha']; exact h.ok a ha'
theorem infoIn : (Tryz.prog.info? 51).map (fun i => (i.zero, i.size, i.bytes)) = some (some (.agg #[.int .i64 0, .int .i64 0, .int .i64 0, .int .i64 0, .int .i64 0]), 5, 40) := by kernel_rfl

set_option maxRecDepth 100000 in
set_option maxHeartbeats 8000000 in
theorem turned25_any (w : World) (A : Option Addr) (n c : Nat) (os : List Oj) (xs : Nat → Nat → By.Fn) (ws : Nat → Nat → List Int) (rs : Nat → Nat → List By.Rl) (h : OjsI w A n c os xs ws rs) :
    Calls Tryz.prog 4 #[.slice A n c] w fun e w' => e = .returned (.bool true) ∧ Below w.heap.size w w' := by
  obtain ⟨iF, hiF, hzF0, hzF1, hzF2⟩ := info_split infoFun
  obtain ⟨iI, hiI, hzI0, hzI1, hzI2⟩ := info_split infoIn
  obtain ⟨iN, hiN, hzN0, hzN1, hzN2⟩ := info_split infoInt
  have HFEW := Lib.hid (fun W (hb : Below w.heap.size w W) => few_in (h.on hb))
  clear h
  go_enter Tryz.func4, Tryz.ntmps4
  go_wp2_with (go_at_call 11; refine (HFEW.out w (Below.refl _ _)).mono ?_; rintro e w2 ⟨⟨b, rfl, hj⟩, hb2⟩; have HJ := Lib.hid hj; have HB2 := Lib.hid hb2; clear hb2 hj; cases b)
  · go_wp2_with (go_at_call 12; refine (known25_any _).mono ?_; rintro e w7 ⟨rfl, hb7⟩; have HB7 := Lib.hid hb7; clear hb7)
    go_ret
    exact ⟨rfl, to_ HB2.out HB7.out⟩
  · have HJ2 := Lib.hid (HJ.out (by trivial))
    clear HJ
    go_wp2_with (go_at_call 13; refine (bind_in (HJ2.out.on HB2.out) _).mono ?_; rintro e w3 ⟨P, r1, r2, r3, rfl, hpl, hb3, -⟩; have HPL := Lib.hid hpl; have HB3 := Lib.hid hb3; clear hpl hb3; obtain ⟨fA, fn, fc, fs, dA, dn, dc, ds, en, cs⟩ := P; unfold pgV; dsimp only; go_wp2_with (go_at_call 15; obtain ⟨W4, hW4⟩ : ∃ x, (w3.alloc (.cells #[.slice fA fn fc, .slice dA dn dc, .int .i64 en] 29)).alloc (.cells #[.int .i64 r1, .int .i64 r2, .int .i64 r3] 32) = x := ⟨_, rfl⟩; rw [hW4]; have HW4 := Lib.hid (show Below w3.heap.size w3 W4 from by rw [← hW4]; exact to_ (alloc_ _ _) (alloc_ _ _)); have HPX := Lib.hid (show Blk W4 w3.heap.size 29 #[.slice fA fn fc, .slice dA dn dc, .int .i64 en] from by rw [← hW4]; exact blk2.1); clear hW4; have HPL4 := Lib.hid (HPL.out.on HW4.out); refine (few25_any W4 ⟨fA, fn, fc, fs, dA, dn, dc, ds, en, cs⟩ HPL4.out.fr HPL4.out.dr).mono ?_; rintro e w4 ⟨b2, rfl, hb4, hfe⟩; have HB4 := Lib.hid hb4; have HFE := Lib.hid hfe; have HPB := Lib.hid (HPX.out.below hb4 HPX.out.lt); have p0 : w4.cell? ⟨w3.heap.size, 0, none⟩ = some (.slice fA fn fc) := HPB.out.cell 0; have p1 : w4.cell? ⟨w3.heap.size, 1, none⟩ = some (.slice dA dn dc) := HPB.out.cell 1; have p2 : w4.cell? ⟨w3.heap.size, 2, none⟩ = some (.int .i64 en) := HPB.out.cell 2; clear hb4 hfe; cases b2))
    · go_wp2_with (go_at_call 12; refine (known25_any _).mono ?_; rintro e w7 ⟨rfl, hb7⟩; have HB7 := Lib.hid hb7; clear hb7)
      go_ret
      exact ⟨rfl, to_ HB2.out (to_ HB3.out (to_ HW4.out (to_ HB4.out HB7.out)))⟩
    · have HFE9 := Lib.hid (HFE.out (by trivial))
      clear HFE
      have HRP := Lib.hid (fun W (hb : Below w4.heap.size w4 W) => (HPL4.out.rd HFE9.out).on (to_ HB4.out hb))
      have HBW := Lib.hid (show Below w.heap.size w w4 from to_ HB2.out (to_ HB3.out (to_ HW4.out HB4.out)))
      have hfn : fn ≤ 24 := HFE9.out.2.2.1
      have HN24 := Lib.hid hfn
      have HD24 := Lib.hid (show dn ≤ 24 from HFE9.out.2.2.2)
      obtain ⟨W5, hW5⟩ : ∃ x, w4.alloc (.cells #[.slice none 0 0, .slice dA dn dc, .int .i64 en] 29) = x := ⟨_, rfl⟩
      have HT0 := Lib.hid (show TQ w4 W5 w4.heap.size fs cs dA dn dc en (.slice none 0 0) [] from by
        rw [← hW5]
        exact ⟨alloc_ _ _, Blk.new _ _ _, World.ownsRow_nil _ _ _ _, fun t ht => absurd ht (by simp), fun j hj => absurd hj (by simp), Nat.le_refl _⟩)
      have HGF := Lib.hid (fun W (hb : Below w4.heap.size w4 W) a (ha : a < fn) => gf_at (HRP.out W hb).fr ha)
      have HGC := Lib.hid (fun W (hb : Below w4.heap.size w4 W) a (ha : a < fn) => ((HRP.out W hb).fns a ha).code)
      have HGR := Lib.hid (fun W (hb : Below w4.heap.size w4 W) a (ha : a < fn) => ((HRP.out W hb).fns a ha).refs)
      have HLN := Lib.hid (show ∀ a, a < fn → (gfAt fs a).R.2.1 = (gfAt fs a).F.code.2.1 ∧ (gfAt fs a).F.code.2.1 ≤ 80 ∧ (gfAt fs a).refs.length = (gfAt fs a).F.code.2.1 from fun a ha => by
        have h1 := (own_slV (HPL4.out.own.fref (gfAt fs a) (List.mem_of_getElem? (gfAt_some (show a < fs.length by rw [HPL4.out.fr.1]; exact ha))))).1
        have h2 := HPL4.out.lenF a ha
        have h3 : fewG (gfAt fs a) := HFE9.out.1 a ha
        dsimp only at h2
        exact ⟨h1.trans h2, h3.1, h2⟩)
      have HPK := Lib.hid (fun W (hb : Below w4.heap.size w4 W) => HPB.out.below hb HPB.out.lt)
      go_wp2_with fail
      clear hW5 p0 p1 p2
      go_loopw [6] (fun i9 wr => ∃ (a : Nat) (v1 : Value) (ts : List Tn), a ≤ fn ∧ i9 = .int .i64 (a : Int) ∧ Hid (ts.length = a) ∧ Hid (TQ w4 wr w4.heap.size fs cs dA dn dc en v1 ts)) (fun i9 _ => fn - (intOf i9).toNat)
      case atStart => exact ⟨0, _, [], Nat.zero_le _, rfl, Lib.hid rfl, HT0⟩
      case round =>
        obtain ⟨a, v1, ts, ha, rfl, HTL, HTQ⟩ := hrel
        have p0 : wr.cell? ⟨w3.heap.size, 0, none⟩ = some (.slice fA fn fc) := (HPK.out wr HTQ.out.low).cell 0
        by_cases hlt : a < fn
        · have haI : (a : Int) < (fn : Int) := by omega
          have ha0 : (0 : Int) ≤ (a : Int) := by omega
          have HLT := Lib.hid hlt
          obtain ⟨ad, rfl, hz9, f0, hfc⟩ := HGF.out wr HTQ.out.low a hlt
          obtain ⟨hl1, hl2, hl3⟩ := HLN.out a hlt
          have HGC9 := Lib.hid (fun W hb => HGC.out W hb a HLT.out)
          have HGR9 := Lib.hid (fun W hb => HGR.out W hb a HLT.out)
          obtain ⟨g, hg⟩ : ∃ g, gfAt fs a = g := ⟨_, rfl⟩
          have HG := Lib.hid hg
          rw [hg] at hfc f0 hl1 hl2 hl3 HGC9 HGR9
          clear hg
          obtain ⟨file, item, nm, ⟨cl, ⟨kA, kn, kc⟩, pd, no, fr, tt, ⟨lA, ln, lc⟩, ⟨cA, cn, cc⟩, ⟨rA, rn, rc⟩⟩, ⟨qA, qn, qc⟩, refs⟩ := g
          have f1 := hfc 0 _ rfl
          have f2 := hfc 1 _ rfl
          have f3 := hfc 2 _ rfl
          have f4 := hfc 3 _ rfl
          have f5 := hfc 4 _ rfl
          have f6 := hfc 5 _ rfl
          have f7 := hfc 6 _ rfl
          have f8 := hfc 7 _ rfl
          have f9 := hfc 8 _ rfl
          have f10 := hfc 9 _ rfl
          have f11 := hfc 10 _ rfl
          have f12 := hfc 11 _ rfl
          unfold slV at f4 f9 f10 f11 f12
          dsimp only at f0 f1 f2 f3 f4 f5 f6 f7 f8 f9 f10 f11 f12 hl1 hl2 hl3 HGC9 HGR9
          clear hfc
          subst hl1
          have HQN := Lib.hid hl2
          have HQL := Lib.hid hl3
          clear hl3
          obtain ⟨wz, hwz⟩ : ∃ wz, wz = wr := ⟨_, rfl⟩
          subst hwz
          obtain ⟨wy, hwy⟩ : ∃ wy, wz.alloc (.cells #[.int .i64 (file : Int), .int .i64 (item : Int), .string nm, .int .i64 cl, .slice kA kn kc, .int .i64 pd, .bool no, .int .i64 fr, .int .i64 tt, .slice lA ln lc, .slice cA qn cc, .slice rA rn rc, .slice qA qn qc] 49) = wy := ⟨_, rfl⟩
          obtain ⟨FBK, hFB⟩ : ∃ x : Nat, wz.heap.size = x := ⟨_, rfl⟩
          have HFB := Lib.hid (show Blk wy FBK 49 #[.int .i64 (file : Int), .int .i64 (item : Int), .string nm, .int .i64 cl, .slice kA kn kc, .int .i64 pd, .bool no, .int .i64 fr, .int .i64 tt, .slice lA ln lc, .slice cA qn cc, .slice rA rn rc, .slice qA qn qc] from by rw [← hwy, ← hFB]; exact Blk.new _ _ _)
          have HY := Lib.hid (HTQ.out.on (show Below wz.heap.size wz wy from by rw [← hwy]; exact alloc_ _ _))
          have HWY := Lib.hid (show Below wz.heap.size wz wy from by rw [← hwy]; exact alloc_ _ _)
          have HFS := Lib.hid (show FBK < wy.heap.size from by rw [← hwy, ← hFB, World.size_alloc]; omega)
          have HFZ := Lib.hid (show wz.heap.size ≤ FBK from by omega)
          have HFK := Lib.hid (show w4.heap.size < FBK from by have := HTQ.out.box.lt; omega)
          have g10 : wy.cell? ⟨FBK, 10, none⟩ = some (.slice cA qn cc) := HFB.out.cell 10
          go_wp2_with fail
          clear hwy g10
          go_loopw [8, 9, 10] (fun u8 u9 i wr => ∃ (m : Nat) (cs' : List By.In5) (rs' : List Int), m ≤ qn ∧ i = .int .i64 ((qn : Int) - 1 - (m : Int)) ∧ Hid (cs'.length = m ∧ rs'.length = m ∧ (∀ k, k < m → By.inAt cs' k = By.inAt (cs a) (qn - 1 - k)) ∧ ∀ k, k < m → rs'.getD k 0 = refs.getD (qn - 1 - k) 0) ∧ Hid (wr.ownsRow wy.heap.size 51 5 u8 m (cs'.flatMap By.encIn)) ∧ Hid (wr.ownsRow wy.heap.size 3 1 u9 m (rs'.flatMap encI)) ∧ Hid (Below wy.heap.size wy wr)) (fun _ _ i _ => (intOf i + 1).toNat)
          case atStart => exact ⟨0, [], [], Nat.zero_le _, by go_num, Lib.hid ⟨rfl, rfl, fun k hk => by omega, fun k hk => by omega⟩, Lib.hid (World.ownsRow_nil _ _ _ _), Lib.hid (World.ownsRow_nil _ _ _ _), Lib.hid (Below.refl _ _)⟩
          case round =>
            obtain ⟨m, cs', rs', hm, rfl, HSP, HO8, HO9, HBE⟩ := hrel
            have g10 : wr.cell? ⟨FBK, 10, none⟩ = some (.slice cA qn cc) := (HFB.out.below HBE.out HFB.out.lt).cell 10
            have g12 : wr.cell? ⟨FBK, 12, none⟩ = some (.slice qA qn qc) := (HFB.out.below HBE.out HFB.out.lt).cell 12
            by_cases hmq : m < qn
            · obtain ⟨k, hk⟩ : ∃ k : Nat, qn - 1 - m = k := ⟨_, rfl⟩
              have hkI : (qn : Int) - 1 - (m : Int) = (k : Int) := by omega
              have hkq : k < qn := by omega
              have hk0 : (0 : Int) ≤ (k : Int) := by omega
              have hkL : (k : Int) < (qn : Int) := by omega
              have HMK := Lib.hid (show m = qn - 1 - k ∧ m + 1 ≤ qn ∧ k < qn by omega)
              rw [hkI]
              obtain ⟨cad, rfl, hz1, z0, z1, z2, z3, z4⟩ := in_at (HGC9.out wr (to_ HY.out.low HBE.out)) hkq
              obtain ⟨rad, rfl, hz2, y0⟩ := (HGR9.out wr (to_ HY.out.low HBE.out)).at_ hkq
              obtain ⟨⟨op, ia, ib, ic, iN5⟩, hx⟩ : ∃ x, By.inAt (cs a) k = x := ⟨_, rfl⟩
              obtain ⟨ry, hry⟩ : ∃ y, refs.getD k 0 = y := ⟨_, rfl⟩
              rw [hx] at z0 z1 z2 z3 z4
              rw [hry] at y0
              dsimp only at z0 z1 z2 z3 z4
              have HXE := Lib.hid hx
              have HRE := Lib.hid hry
              clear hx hry hk hkI hm hmq
              go_wp2_with (at_builtin; go_loud (refine wpList_append_own _ rfl _ _ 44 rfl wy.heap.size 51 iI (.agg #[.int .i64 0, .int .i64 0, .int .i64 0, .int .i64 0, .int .i64 0]) 5 40 Tryz.underlying44 hiI hzI0 hzI1 hzI2 rfl (by decide) _ m (cs'.flatMap By.encIn) rfl (own_on HO8.out (alloc_ _ _)) ⟨wr.heap.size, 0, none⟩ 1 1 [.int .i64 op, .int .i64 ia, .int .i64 ib, .int .i64 ic, .int .i64 iN5] rfl rfl (cells_new wr 51 _) (by simp [Value.oneCell']) (by unfold maxLen; have := HMK.out; omega) (by have := HMK.out; omega) (by have := HBE.out.size; simp; omega) ?_; intro v' w6 h2 h3 _; have H2 := Lib.hid h2; have H3 := Lib.hid (show w6.ownsRow wy.heap.size 3 1 u9 m (rs'.flatMap encI) from own_apart (own_on HO9.out (alloc_ _ _)) (own_on HO8.out (alloc_ _ _)) (by decide) h3); have HB6 := Lib.hid (show Below wy.heap.size wy w6 from (to_ HBE.out (alloc_ _ _)).grown h3 (to_ HBE.out (alloc_ _ _)).size fun r e => (HO8.out.lt r e).1); clear h2 h3 g10 g12 z0 z1 z2 z3 z4 y0; have g12 : w6.cell? ⟨FBK, 12, none⟩ = some (.slice (some rad) qn qc) := (HFB.out.below HB6.out HFB.out.lt).cell 12; have y0 : w6.cell? (rad.add k) = some (.int .i64 ry) := (by obtain ⟨rad2, e9, _, y1⟩ := (HGR9.out w6 (to_ HY.out.low HB6.out)).at_ HMK.out.2.2; injection e9 with e9; subst e9; rw [HRE.out] at y1; exact y1); go_wp2_with (at_builtin; go_loud (refine wpList_append_own _ rfl _ _ 42 rfl wy.heap.size 3 iN (.int .i64 0) 1 8 Tryz.underlying42 hiN hzN0 hzN1 hzN2 rfl (by decide) _ m (rs'.flatMap encI) rfl (own_on H3.out (alloc_ _ _)) ⟨w6.heap.size, 0, none⟩ 1 1 [.int .i64 ry] rfl rfl (one_new w6 _ 3) (by simp [Value.oneCell']) (by unfold maxLen; have := HMK.out; omega) (by have := HMK.out; omega) (by have := HB6.out.size; simp; omega) ?_; intro v9 w8 h4 h5 _; have H4 := Lib.hid h4; have H5 := Lib.hid (show w8.ownsRow wy.heap.size 51 5 v' (m + 1) (cs'.flatMap By.encIn ++ [.int .i64 op, .int .i64 ia, .int .i64 ib, .int .i64 ic, .int .i64 iN5]) from own_apart (own_on H2.out (alloc_ _ _)) (own_on H3.out (alloc_ _ _)) (by decide) h5); have HB8 := Lib.hid (show Below wy.heap.size wy w8 from (to_ HB6.out (alloc_ _ _)).grown h5 (to_ HB6.out (alloc_ _ _)).size fun r e => (H3.out.lt r e).1); clear h4 h5 g12 y0))))
              go_roundw
              case rel =>
                refine ⟨m + 1, cs' ++ [(op, ia, ib, ic, iN5)], rs' ++ [ry], HMK.out.2.1, by have := HMK.out; go_num, Lib.hid ⟨?_, ?_, fun j hj => ?_, fun j hj => ?_⟩, Lib.hid ?_, Lib.hid ?_, HB8⟩
                · rw [List.length_append, HSP.out.1]; rfl
                · rw [List.length_append, HSP.out.2.1]; rfl
                · rw [InAt_app, HSP.out.1]
                  by_cases e : j < m
                  · rw [if_pos e]; exact HSP.out.2.2.1 j e
                  · obtain rfl : j = m := by omega
                    rw [if_neg e, if_pos rfl, ← HXE.out]
                    congr 1
                    have := HMK.out; omega
                · rw [getD_app, HSP.out.2.1]
                  by_cases e : j < m
                  · rw [if_pos e]; exact HSP.out.2.2.2 j e
                  · obtain rfl : j = m := by omega
                    rw [if_neg e, if_pos rfl, ← HRE.out]
                    congr 1
                    have := HMK.out; omega
                · rw [List.flatMap_append]; exact H5.out
                · rw [List.flatMap_append]; exact H4.out
              case measure => have := HMK.out; simp [intOf]
            · have HMQ := Lib.hid (show m = qn by omega)
              have hneg : ¬ (0 : Int) ≤ (qn : Int) - 1 - (m : Int) := by omega
              obtain ⟨hs1, hs2, hs3, hs4⟩ : cs'.length = qn ∧ rs'.length = qn ∧ (∀ k, k < qn → By.inAt cs' k = By.inAt (cs a) (qn - 1 - k)) ∧ ∀ k, k < qn → rs'.getD k 0 = refs.getD (qn - 1 - k) 0 := by
                have h9 := HSP.out; rw [HMQ.out] at h9; exact h9
              have HO8q := Lib.hid (show wr.ownsRow wy.heap.size 51 5 u8 qn (cs'.flatMap By.encIn) from by have h9 := HO8.out; rw [HMQ.out] at h9; exact h9)
              have HO9q := Lib.hid (show wr.ownsRow wy.heap.size 3 1 u9 qn (rs'.flatMap encI) from by have h9 := HO9.out; rw [HMQ.out] at h9; exact h9)
              obtain ⟨C8, c8, e8⟩ := own_form HO8q.out
              obtain ⟨C9, c9, e9⟩ := own_form HO9q.out
              subst e8 e9
              have HS1 := Lib.hid hs1
              have HS2 := Lib.hid hs2
              have HTU := Lib.hid (show Turn (gfAt fs ts.length) ⟨file, item, nm, ⟨cl, ⟨kA, kn, kc⟩, pd, no, fr, tt, ⟨lA, ln, lc⟩, ⟨C8, qn, c8⟩, ⟨rA, rn, rc⟩⟩, ⟨C9, qn, c9⟩, rs'⟩ (cs ts.length) cs' from by rw [HTL.out, HG.out]; exact ⟨rfl, rfl, hs3, hs4⟩)
              clear hs1 hs2 hs3 hs4
              obtain ⟨w5, hw5⟩ : ∃ x, (wr.setCell ⟨FBK, 10, none⟩ (.slice C8 qn c8)).setCell ⟨FBK, 12, none⟩ (.slice C9 qn c9) = x := ⟨_, rfl⟩
              have HF5 := Lib.hid (show Blk w5 FBK 49 ((#[.int .i64 (file : Int), .int .i64 (item : Int), .string nm, .int .i64 cl, .slice kA kn kc, .int .i64 pd, .bool no, .int .i64 fr, .int .i64 tt, .slice lA ln lc, .slice cA qn cc, .slice rA rn rc, .slice qA qn qc].setIfInBounds 10 (.slice C8 qn c8)).setIfInBounds 12 (.slice C9 qn c9)) from by rw [← hw5]; exact ((HFB.out.below HBE.out HFB.out.lt).stored 10 _).stored 12 _)
              have HQ5 := Lib.hid (show TQ w4 w5 w4.heap.size fs cs dA dn dc en v1 ts from by
                rw [← hw5]
                refine HTQ.out.on (far_belowT (far_belowT ?_ HFZ.out) HFZ.out)
                exact to_ HWY.out HBE.out)
              have HC5 := Lib.hid (show w5.ownsRow (w4.heap.size + 1) 51 5 (.slice C8 qn c8) cs'.length (cs'.flatMap By.encIn) from by
                rw [← hw5, HS1.out]; exact own_lower (own_cell (own_cell HO8q.out _ _ HFS.out) _ _ HFS.out) (by have := HFK.out; have := HFS.out; omega))
              have HR5 := Lib.hid (show w5.ownsRow (w4.heap.size + 1) 3 1 (.slice C9 qn c9) rs'.length (rs'.flatMap encI) from by
                rw [← hw5, HS2.out]; exact own_lower (own_cell (own_cell HO9q.out _ _ HFS.out) _ _ HFS.out) (by have := HFK.out; have := HFS.out; omega))
              have b10 : wr.cell? ⟨FBK, 10, none⟩ = some (.slice cA qn cc) := (HFB.out.below HBE.out HFB.out.lt).cell 10
              have b12 : wr.cell? ⟨FBK, 12, none⟩ = some (.slice qA qn qc) := (HFB.out.below HBE.out HFB.out.lt).cell 12
              have r10 := (HFB.out.below HBE.out HFB.out.lt).frozen 10
              have r12 := (HFB.out.below HBE.out HFB.out.lt).frozen 12
              have d0 : w5.cell? ⟨FBK, 0, none⟩ = some (.int .i64 (file : Int)) := (HF5.out.cell 0).trans (by simp)
              have d1 : w5.cell? ⟨FBK, 1, none⟩ = some (.int .i64 (item : Int)) := (HF5.out.cell 1).trans (by simp)
              have d2 : w5.cell? ⟨FBK, 2, none⟩ = some (.string nm) := (HF5.out.cell 2).trans (by simp)
              have d3 : w5.cell? ⟨FBK, 3, none⟩ = some (.int .i64 cl) := (HF5.out.cell 3).trans (by simp)
              have d4 : w5.cell? ⟨FBK, 4, none⟩ = some (.slice kA kn kc) := (HF5.out.cell 4).trans (by simp)
              have d5 : w5.cell? ⟨FBK, 5, none⟩ = some (.int .i64 pd) := (HF5.out.cell 5).trans (by simp)
              have d6 : w5.cell? ⟨FBK, 6, none⟩ = some (.bool no) := (HF5.out.cell 6).trans (by simp)
              have d7 : w5.cell? ⟨FBK, 7, none⟩ = some (.int .i64 fr) := (HF5.out.cell 7).trans (by simp)
              have d8 : w5.cell? ⟨FBK, 8, none⟩ = some (.int .i64 tt) := (HF5.out.cell 8).trans (by simp)
              have d9 : w5.cell? ⟨FBK, 9, none⟩ = some (.slice lA ln lc) := (HF5.out.cell 9).trans (by simp)
              have d10 : w5.cell? ⟨FBK, 10, none⟩ = some (.slice C8 qn c8) := (HF5.out.cell 10).trans (by simp)
              have d11 : w5.cell? ⟨FBK, 11, none⟩ = some (.slice rA rn rc) := (HF5.out.cell 11).trans (by simp)
              have d12 : w5.cell? ⟨FBK, 12, none⟩ = some (.slice C9 qn c9) := (HF5.out.cell 12).trans (by simp)
              have dq : w5.cell? ⟨w4.heap.size, 0, none⟩ = some v1 := HQ5.out.box.cell 0
              have HV9 := Lib.hid (show FBK ≠ w4.heap.size from by have := HFK.out; omega)
              clear g10 g12
              go_wp2_with (at_builtin; go_loud (refine wpList_append_own _ rfl _ _ 26 rfl (w4.heap.size + 1) 49 iF (.agg #[.int .i64 0, .int .i64 0, .string ⟨#[]⟩, .int .i64 0, .slice none 0 0, .int .i64 0, .bool false, .int .i64 0, .int .i64 0, .slice none 0 0, .slice none 0 0, .slice none 0 0, .slice none 0 0]) 13 192 Tryz.underlying26 hiF hzF0 hzF1 hzF2 rfl (by decide) _ ts.length ((ts.map (·.1)).flatMap encGf) rfl (own_on HQ5.out.fr (alloc_ _ _)) ⟨w5.heap.size, 0, none⟩ 1 1 [.int .i64 (file : Int), .int .i64 (item : Int), .string nm, .int .i64 cl, .slice kA kn kc, .int .i64 pd, .bool no, .int .i64 fr, .int .i64 tt, .slice lA ln lc, .slice C8 qn c8, .slice rA rn rc, .slice C9 qn c9] rfl rfl (cells_new w5 49 _) (by simp [Value.oneCell']) (by unfold maxLen; have := HTL.out; have := HN24.out; omega) (by have := HTL.out; have := HN24.out; omega) (by have := HQ5.out.low.size; simp; have := HQ5.out.box.lt; omega) ?_; intro v' w6 h2 h3 _; obtain ⟨vA, vc, rfl⟩ := own_form h2; have HADD := Lib.hid (HQ5.out.add (⟨file, item, nm, ⟨cl, ⟨kA, kn, kc⟩, pd, no, fr, tt, ⟨lA, ln, lc⟩, ⟨C8, qn, c8⟩, ⟨rA, rn, rc⟩⟩, ⟨C9, qn, c9⟩, rs'⟩, cs') HC5.out HR5.out HTU.out _ h2 h3); have q6 : w6.cell? ⟨w4.heap.size, 0, none⟩ = some v1 := HADD.out.2.1; have r6 : w6.frozen? ⟨w4.heap.size, 0, none⟩ = false := HADD.out.2.2; clear h2 h3 hw5 b10 b12 r10 r12 d0 d1 d2 d3 d4 d5 d6 d7 d8 d9 d10 d11 d12 dq))
              go_roundw
              case rel => exact ⟨a + 1, .slice vA (ts.length + 1) vc, ts ++ [(⟨file, item, nm, ⟨cl, ⟨kA, kn, kc⟩, pd, no, fr, tt, ⟨lA, ln, lc⟩, ⟨C8, qn, c8⟩, ⟨rA, rn, rc⟩⟩, ⟨C9, qn, c9⟩, rs'⟩, cs')], by have := HLT.out; omega, by go_num, Lib.hid (by rw [List.length_append, HTL.out]; rfl), Lib.hid HADD.out.1⟩
              case measure => have := HLT.out; simp [intOf]; omega
        · have HAE : a = fn := by omega
          have HLN9 := Lib.hid (HTQ.out.pgr (fA := fA) (fc := fc) (ds := ds) (HTL.out.trans HAE) (HRP.out wr HTQ.out.low) HLN.out)
          obtain ⟨gA, gc, hv1, hpq, htq⟩ := HLN9.out
          subst hv1
          have HPQ := Lib.hid hpq
          have hll := htq.lists
          obtain ⟨hl0, hl1, hl2⟩ := hll
          clear hpq htq HLN9
          dsimp only at hl0 hl1 hl2
          have haI : ¬ (a : Int) < (fn : Int) := by omega
          have HL0 := Lib.hid (ls_of (n := fn) (f := refersL ⟨fA, fn, fc, fs, dA, dn, dc, ds, en, cs⟩) (fun a => rise_len _ _) (show fn ≤ 100000 by have := HN24.out; have := HD24.out; omega))
          have HP0 := Lib.hid (fun W (hb : Below wr.heap.size wr W) => refers_tells W ⟨fA, fn, fc, fs, dA, dn, dc, ds, en, cs⟩ ((HRP.out wr HTQ.out.low).on hb))
          have HD0 := Lib.hid (fun W (hb : Below wr.heap.size wr W) => refers_tells W ⟨gA, fn, gc, ts.map (·.1), dA, dn, dc, ds, en, fun a => (tnAt ts a).2⟩ (HPQ.out.on hb))
          unfold pgV at HP0 HD0
          dsimp only at HP0 HD0
          rw [hl0] at HD0
          obtain ⟨L0, hL0⟩ : ∃ L, (List.range fn).map (refersL ⟨fA, fn, fc, fs, dA, dn, dc, ds, en, cs⟩) = L := ⟨_, rfl⟩
          rw [hL0] at HP0 HD0 HL0
          clear hL0 hl0
          have HL1 := Lib.hid (ls_of (n := fn) (f := viasL ⟨fA, fn, fc, fs, dA, dn, dc, ds, en, cs⟩) (fun a => rise_len _ _) (show 8 ≤ 100000 by have := HN24.out; have := HD24.out; omega))
          have HP1 := Lib.hid (fun W (hb : Below wr.heap.size wr W) => vias_tells W ⟨fA, fn, fc, fs, dA, dn, dc, ds, en, cs⟩ ((HRP.out wr HTQ.out.low).on hb))
          have HD1 := Lib.hid (fun W (hb : Below wr.heap.size wr W) => vias_tells W ⟨gA, fn, gc, ts.map (·.1), dA, dn, dc, ds, en, fun a => (tnAt ts a).2⟩ (HPQ.out.on hb))
          unfold pgV at HP1 HD1
          dsimp only at HP1 HD1
          rw [hl1] at HD1
          obtain ⟨L1, hL1⟩ : ∃ L, (List.range fn).map (viasL ⟨fA, fn, fc, fs, dA, dn, dc, ds, en, cs⟩) = L := ⟨_, rfl⟩
          rw [hL1] at HP1 HD1 HL1
          clear hL1 hl1
          have HL2 := Lib.hid (ls_of (n := fn) (f := datasL ⟨fA, fn, fc, fs, dA, dn, dc, ds, en, cs⟩) (fun a => rise_len _ _) (show dn ≤ 100000 by have := HN24.out; have := HD24.out; omega))
          have HP2 := Lib.hid (fun W (hb : Below wr.heap.size wr W) => datas_tells W ⟨fA, fn, fc, fs, dA, dn, dc, ds, en, cs⟩ ((HRP.out wr HTQ.out.low).on hb))
          have HD2 := Lib.hid (fun W (hb : Below wr.heap.size wr W) => datas_tells W ⟨gA, fn, gc, ts.map (·.1), dA, dn, dc, ds, en, fun a => (tnAt ts a).2⟩ (HPQ.out.on hb))
          unfold pgV at HP2 HD2
          dsimp only at HP2 HD2
          rw [hl2] at HD2
          obtain ⟨L2, hL2⟩ : ∃ L, (List.range fn).map (datasL ⟨fA, fn, fc, fs, dA, dn, dc, ds, en, cs⟩) = L := ⟨_, rfl⟩
          rw [hL2] at HP2 HD2 HL2
          clear hL2 hl2
          have p0 : wr.cell? ⟨w3.heap.size, 0, none⟩ = some (.slice fA fn fc) := (HPK.out wr HTQ.out.low).cell 0
          have p1 : wr.cell? ⟨w3.heap.size, 1, none⟩ = some (.slice dA dn dc) := (HPK.out wr HTQ.out.low).cell 1
          have p2 : wr.cell? ⟨w3.heap.size, 2, none⟩ = some (.int .i64 en) := (HPK.out wr HTQ.out.low).cell 2
          have q0 : wr.cell? ⟨w4.heap.size, 0, none⟩ = some (.slice gA fn gc) := HTQ.out.box.cell 0
          have q1 : wr.cell? ⟨w4.heap.size, 1, none⟩ = some (.slice dA dn dc) := HTQ.out.box.cell 1
          have q2 : wr.cell? ⟨w4.heap.size, 2, none⟩ = some (.int .i64 en) := HTQ.out.box.cell 2
          go_wp2_with fail
          refine wp_region_noPanic ?_
          refine wp_region_held_drew (S := fun W => W.cell? ⟨w3.heap.size, 0, none⟩ = some (.slice fA fn fc) ∧ W.cell? ⟨w3.heap.size, 1, none⟩ = some (.slice dA dn dc) ∧ W.cell? ⟨w3.heap.size, 2, none⟩ = some (.int .i64 en) ∧ W.cell? ⟨w4.heap.size, 0, none⟩ = some (.slice gA fn gc) ∧ W.cell? ⟨w4.heap.size, 1, none⟩ = some (.slice dA dn dc) ∧ W.cell? ⟨w4.heap.size, 2, none⟩ = some (.int .i64 en)) (by kernel_rfl) (⟨p0, p1, p2, q0, q1, q2⟩) (fun hHeld => ?_)
          refine tkZ 0 rfl hHeld ?_
          try simp only [Act.put, nmZ]
          refine tkZ 2 rfl hHeld ?_
          try simp only [Act.put, nmZ]
          refine wpAnyH_ready (rs := [1]) (by kernel_rfl) (by simp) ?_
          refine AllReadyH.cons rfl (fun K hK => ?_) AllReadyH.nil
          go_simp
          refine (HP0.out _ (((Below.refl _ _).drew))).mono ?_; intro e u1 hh; obtain ⟨A0, c0, rfl, hg, hb⟩ := rows_gr hh HL0.out HN24.out; have HB21 := Lib.hid (to_ (((Below.refl _ _).drew)) hb); have HG0 := Lib.hid hg; have HU := Lib.hid hb; clear hh hg hb
          try go_wp2_with fail
          refine hK.out _ _ (⟨cell_on hHeld.1 HU.out, cell_on hHeld.2.1 HU.out, cell_on hHeld.2.2.1 HU.out, cell_on hHeld.2.2.2.1 HU.out, cell_on hHeld.2.2.2.2.1 HU.out, cell_on hHeld.2.2.2.2.2 HU.out⟩) ?_
          clear hK K hHeld
          intro hHeld
          try simp only [Act.put, nmZ]
          refine wpAnyH_ready (rs := [3]) (by kernel_rfl) (by simp) ?_
          refine AllReadyH.cons rfl (fun K hK => ?_) AllReadyH.nil
          go_simp
          refine (HD0.out _ (HB21.out)).mono ?_; intro e u2 hh; obtain ⟨D0, d0, rfl, hg, hb⟩ := rows_gr hh HL0.out HN24.out; have HB22 := Lib.hid (to_ (HB21.out) hb); have HE0 := Lib.hid hg; have HU := Lib.hid hb; clear hh hg hb
          try go_wp2_with fail
          refine hK.out _ _ (⟨cell_on hHeld.1 HU.out, cell_on hHeld.2.1 HU.out, cell_on hHeld.2.2.1 HU.out, cell_on hHeld.2.2.2.1 HU.out, cell_on hHeld.2.2.2.2.1 HU.out, cell_on hHeld.2.2.2.2.2 HU.out⟩) ?_
          clear hK K hHeld
          intro hHeld
          try simp only [Act.put, nmZ]
          refine wpAnyH_ready (rs := [4]) (by kernel_rfl) (by simp) ?_
          refine AllReadyH.cons rfl (fun K hK => ?_) AllReadyH.nil
          go_simp
          refine (same10_any _ A0 D0 fn c0 d0 L0 HL0.out.1 (by have := HN24.out; omega) HL0.out.2 (gr_on HG0.out HU.out) HE0.out).mono ?_; rintro e u3 ⟨rfl, hb⟩; have HB23 := Lib.hid (to_ (HB22.out) hb); have HU := Lib.hid hb; clear hb
          try go_wp2_with fail
          refine hK.out _ _ (⟨cell_on hHeld.1 HU.out, cell_on hHeld.2.1 HU.out, cell_on hHeld.2.2.1 HU.out, cell_on hHeld.2.2.2.1 HU.out, cell_on hHeld.2.2.2.2.1 HU.out, cell_on hHeld.2.2.2.2.2 HU.out⟩) ?_
          clear hK K hHeld
          intro hHeld
          try simp only [Act.put, nmZ]
          refine tkZ 5 rfl hHeld ?_
          try simp only [Act.put, nmZ]
          refine tkZ 6 rfl hHeld ?_
          try simp only [Act.put, nmZ]
          refine tkZ 8 rfl hHeld ?_
          try simp only [Act.put, nmZ]
          refine wpAnyH_ready (rs := [7]) (by kernel_rfl) (by simp) ?_
          refine AllReadyH.cons rfl (fun K hK => ?_) AllReadyH.nil
          go_simp
          refine (HP1.out _ (HB23.out)).mono ?_; intro e u4 hh; obtain ⟨A1, c1, rfl, hg, hb⟩ := rows_gr hh HL1.out HN24.out; have HB24 := Lib.hid (to_ (HB23.out) hb); have HG1 := Lib.hid hg; have HU := Lib.hid hb; clear hh hg hb
          try go_wp2_with fail
          refine hK.out _ _ (⟨cell_on hHeld.1 HU.out, cell_on hHeld.2.1 HU.out, cell_on hHeld.2.2.1 HU.out, cell_on hHeld.2.2.2.1 HU.out, cell_on hHeld.2.2.2.2.1 HU.out, cell_on hHeld.2.2.2.2.2 HU.out⟩) ?_
          clear hK K hHeld
          intro hHeld
          try simp only [Act.put, nmZ]
          refine wpAnyH_ready (rs := [9]) (by kernel_rfl) (by simp) ?_
          refine AllReadyH.cons rfl (fun K hK => ?_) AllReadyH.nil
          go_simp
          refine (HD1.out _ (HB24.out)).mono ?_; intro e u5 hh; obtain ⟨D1, d1, rfl, hg, hb⟩ := rows_gr hh HL1.out HN24.out; have HB25 := Lib.hid (to_ (HB24.out) hb); have HE1 := Lib.hid hg; have HU := Lib.hid hb; clear hh hg hb
          try go_wp2_with fail
          refine hK.out _ _ (⟨cell_on hHeld.1 HU.out, cell_on hHeld.2.1 HU.out, cell_on hHeld.2.2.1 HU.out, cell_on hHeld.2.2.2.1 HU.out, cell_on hHeld.2.2.2.2.1 HU.out, cell_on hHeld.2.2.2.2.2 HU.out⟩) ?_
          clear hK K hHeld
          intro hHeld
          try simp only [Act.put, nmZ]
          refine wpAnyH_ready (rs := [10]) (by kernel_rfl) (by simp) ?_
          refine AllReadyH.cons rfl (fun K hK => ?_) AllReadyH.nil
          go_simp
          refine (same10_any _ A1 D1 fn c1 d1 L1 HL1.out.1 (by have := HN24.out; omega) HL1.out.2 (gr_on HG1.out HU.out) HE1.out).mono ?_; rintro e u6 ⟨rfl, hb⟩; have HB26 := Lib.hid (to_ (HB25.out) hb); have HU := Lib.hid hb; clear hb
          try go_wp2_with fail
          refine hK.out _ _ (⟨cell_on hHeld.1 HU.out, cell_on hHeld.2.1 HU.out, cell_on hHeld.2.2.1 HU.out, cell_on hHeld.2.2.2.1 HU.out, cell_on hHeld.2.2.2.2.1 HU.out, cell_on hHeld.2.2.2.2.2 HU.out⟩) ?_
          clear hK K hHeld
          intro hHeld
          try simp only [Act.put, nmZ]
          refine tkZ 11 rfl hHeld ?_
          try simp only [Act.put, nmZ]
          refine tkZ 12 rfl hHeld ?_
          try simp only [Act.put, nmZ]
          refine tkZ 13 rfl hHeld ?_
          try simp only [Act.put, nmZ]
          refine tkZ 15 rfl hHeld ?_
          try simp only [Act.put, nmZ]
          refine wpAnyH_ready (rs := [14]) (by kernel_rfl) (by simp) ?_
          refine AllReadyH.cons rfl (fun K hK => ?_) AllReadyH.nil
          go_simp
          refine (HP2.out _ (HB26.out)).mono ?_; intro e u7 hh; obtain ⟨A2, c2, rfl, hg, hb⟩ := rows_gr hh HL2.out HN24.out; have HB27 := Lib.hid (to_ (HB26.out) hb); have HG2 := Lib.hid hg; have HU := Lib.hid hb; clear hh hg hb
          try go_wp2_with fail
          refine hK.out _ _ (⟨cell_on hHeld.1 HU.out, cell_on hHeld.2.1 HU.out, cell_on hHeld.2.2.1 HU.out, cell_on hHeld.2.2.2.1 HU.out, cell_on hHeld.2.2.2.2.1 HU.out, cell_on hHeld.2.2.2.2.2 HU.out⟩) ?_
          clear hK K hHeld
          intro hHeld
          try simp only [Act.put, nmZ]
          refine wpAnyH_ready (rs := [16]) (by kernel_rfl) (by simp) ?_
          refine AllReadyH.cons rfl (fun K hK => ?_) AllReadyH.nil
          go_simp
          refine (HD2.out _ (HB27.out)).mono ?_; intro e u8 hh; obtain ⟨D2, d2, rfl, hg, hb⟩ := rows_gr hh HL2.out HN24.out; have HB28 := Lib.hid (to_ (HB27.out) hb); have HE2 := Lib.hid hg; have HU := Lib.hid hb; clear hh hg hb
          try go_wp2_with fail
          refine hK.out _ _ (⟨cell_on hHeld.1 HU.out, cell_on hHeld.2.1 HU.out, cell_on hHeld.2.2.1 HU.out, cell_on hHeld.2.2.2.1 HU.out, cell_on hHeld.2.2.2.2.1 HU.out, cell_on hHeld.2.2.2.2.2 HU.out⟩) ?_
          clear hK K hHeld
          intro hHeld
          try simp only [Act.put, nmZ]
          refine wpAnyH_ready (rs := [17]) (by kernel_rfl) (by simp) ?_
          refine AllReadyH.cons rfl (fun K hK => ?_) AllReadyH.nil
          go_simp
          refine (same10_any _ A2 D2 fn c2 d2 L2 HL2.out.1 (by have := HN24.out; omega) HL2.out.2 (gr_on HG2.out HU.out) HE2.out).mono ?_; rintro e u9 ⟨rfl, hb⟩; have HB29 := Lib.hid (to_ (HB28.out) hb); have HU := Lib.hid hb; clear hb
          try go_wp2_with fail
          refine hK.out _ _ (⟨cell_on hHeld.1 HU.out, cell_on hHeld.2.1 HU.out, cell_on hHeld.2.2.1 HU.out, cell_on hHeld.2.2.2.1 HU.out, cell_on hHeld.2.2.2.2.1 HU.out, cell_on hHeld.2.2.2.2.2 HU.out⟩) ?_
          clear hK K hHeld
          intro hHeld
          try simp only [Act.put, nmZ]
          refine tkZ 18 rfl hHeld ?_
          try simp only [Act.put, nmZ]
          refine tkZ 19 rfl hHeld ?_
          try simp only [Act.put, nmZ]
          refine wpAnyH_ready (rs := [20]) (by kernel_rfl) (by simp) ?_
          refine AllReadyH.cons rfl (fun K hK => ?_) AllReadyH.nil
          go_simp
          refine (known25_any _).mono ?_; rintro e u10 ⟨rfl, hb⟩; have HB210 := Lib.hid (to_ (HB29.out) hb); have HU := Lib.hid hb; clear hb
          try go_wp2_with fail
          refine hK.out _ _ (⟨cell_on hHeld.1 HU.out, cell_on hHeld.2.1 HU.out, cell_on hHeld.2.2.1 HU.out, cell_on hHeld.2.2.2.1 HU.out, cell_on hHeld.2.2.2.2.1 HU.out, cell_on hHeld.2.2.2.2.2 HU.out⟩) ?_
          clear hK K hHeld
          intro hHeld
          try simp only [Act.put, nmZ]
          refine tkZ 21 rfl hHeld ?_
          try simp only [Act.put, nmZ]
          refine tkZ 22 rfl hHeld ?_
          try simp only [Act.put, nmZ]
          refine wpAnyH_done (by kernel_rfl) ?_ _
          refine NoPanic.normal ?_
          go_wp2_with fail
          go_ret
          exact ⟨rfl, to_ HBW.out (to_ HTQ.out.low HB210.out)⟩
end Go.Proofs.YtnenmgefgdpkdaaGreat.Bo
