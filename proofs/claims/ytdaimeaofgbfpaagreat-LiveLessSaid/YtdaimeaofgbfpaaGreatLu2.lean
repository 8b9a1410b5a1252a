/-
 Lq2 Ls2 Lt2 Lu2
-/
import Derived.Test.YtdaimeaofgbfpaaGreatZa2
import Derived.Test.YtdaimeaofgbfpaaGreatLp2
import Derived.Test.YtdaimeaofgbfpaaGreatLd2
import Derived.RangeFuncNested
set_option linter.unusedSimpArgs false
set_option linter.unusedVariables false
namespace Go.Proofs.YtdaimeaofgbfpaaGreat.Bo
open Go.RowKit Go.Maps
open Mem Rf
theorem wpOp_stepS {P : Program} {ops : Array Oper} {Q : Exit → Act → World → Prop} {i : Nat} {o : Oper} {K : Act → World → Prop} {a : Act} {w : World} (ho : ops[i]? = some o)
  (h : ∀ K' : Act → World → Prop, Shut (∀ a w, K a w → K' a w) → if Region.wanted o (yielded ops a.tmps) = true then Oper.wp P o a w K' Q else K' (a.put o.dst undef) w) : wpOp P ops Q i K a w := wpOp_step ho (fun K' hK => h K' hK)
def arrV (sl : Nat → Option Addr × Nat) (T : List (List Int)) : Array Value := #[.slice (sl 0).1 (By.rowOf T 0).length (sl 0).2, .slice (sl 1).1 (By.rowOf T 1).length (sl 1).2, .slice (sl 2).1 (By.rowOf T 2).length (sl 2).2, .slice (sl 3).1 (By.rowOf T 3).length (sl 3).2, .slice (sl 4).1 (By.rowOf T 4).length (sl 4).2, .slice (sl 5).1 (By.rowOf T 5).length (sl 5).2, .slice (sl 6).1 (By.rowOf T 6).length (sl 6).2, .slice (sl 7).1 (By.rowOf T 7).length (sl 7).2]
def zer8 : Array Value := #[.slice none 0 0, .slice none 0 0, .slice none 0 0, .slice none 0 0, .slice none 0 0, .slice none 0 0, .slice none 0 0, .slice none 0 0]
def FRw (n : Nat) (L : List (List Int)) (Y : World) (lo hi : Nat) (v : Value) : Prop := ∃ rb base, v = .slice (some ⟨rb, 0, none⟩) n n ∧ lo ≤ rb ∧ rb < hi ∧ rb < base ∧ By.OwnG Y rb base 44 3 L
def RowS (Y : World) (lo n : Nat) (ok : Nat → Prop) (R : Nat → List Int) (vs : Nat → Value) : Prop := (∀ i, i < n → Y.ownsRow lo 3 1 (vs i) (R i).length (By.ints (R i)) ∧ ∀ k, (vs i).ownBlock = some k → ok k) ∧
 ∀ i j, i < n → j < n → i ≠ j → (vs i).ownBlock = none ∨ (vs i).ownBlock ≠ (vs j).ownBlock
def FRd (n : Nat) (L : List (List Int)) (Y : World) (lo hi : Nat) (v : Value) : Prop := ∃ rb dv, v = .slice (some ⟨rb, 0, none⟩) n n ∧ lo ≤ rb ∧ rb < hi ∧ Blk Y rb 44 (By.arrN n dv) ∧ RowS Y lo n (fun k => k < hi ∧ k ≠ rb) (By.rowOf L) dv
theorem own_low {Y : World} {b b' n : Nat} {v : Value} {xs : List Value} (h : Y.ownsRow b 3 1 v n xs) (hb : b' ≤ b) : Y.ownsRow b' 3 1 v n xs := by
 obtain ⟨h1, h2⟩ := h
 refine ⟨h1, ?_⟩
 rcases h2 with h2 | ⟨g, cap, cur, hv, hb', r⟩
 ·exact .inl h2
 ·exact .inr ⟨g, cap, cur, hv, Nat.le_trans hb hb', r⟩
theorem FRd.of {X : World} {rb base n lo : Nat} {L : List (List Int)} (h : By.OwnG X rb base 44 3 L) (hlo : lo ≤ rb) (hrb : rb < base) (hL : L.length = n) {Y : World} (hY : Keeps (fun k => lo ≤ k ∧ k < X.heap.size) X Y) : FRd n L Y lo X.heap.size (.slice (some ⟨rb, 0, none⟩) n n) := by
 have hlt := h.lt
 obtain ⟨rs, h1, h2, h3, h4⟩ := h
 have hget : ∀ i, i < n → rs[i]? = some (rs.getD i undef) := fun i hi => by
  rw [List.getD_eq_getElem?_getD, List.getElem?_eq_getElem (by omega)]; rfl
 refine ⟨rb, fun i => rs.getD i undef, rfl, hlo, hlt, ?_, fun i hi => ⟨?_, fun k e => ⟨((h3 i _ (hget i hi)).lt k e).2, fun e2 => ?_⟩⟩, fun i j hi hj hij => h4 i j _ _ hij (hget i hi) (hget j hj)⟩
 ·have e : By.arrN n (fun i => rs.getD i undef) = rs.toArray := by
   apply Array.ext
   ·rw [By.arrN_size]; simp; omega
   ·intro i hi1 hi2
    rw [By.arrN_size] at hi1
    have h5 := By.arrN_at (fun i => rs.getD i undef) hi1
    rw [Array.getElem?_eq_getElem (by rw [By.arrN_size]; exact hi1)] at h5
    have h6 := hget i hi1
    rw [List.getElem?_eq_getElem (by omega)] at h6
    have h7 := Option.some.inj h5
    have h8 := Option.some.inj h6
    rw [h7]
    simp only [List.getElem_toArray]
    exact h8.symm
  rw [e]
  exact (hY.block rb ⟨hlo, hlt⟩ hlt).trans h2
 ·exact own_low (b := base) (By.own_keep (h3 i _ (hget i hi)) fun g hg hl _ => hY.block g ⟨by omega, hl⟩ hl) (by omega)
 ·have := ((h3 i _ (hget i hi)).lt k e).1
  omega
def FAr (T : List (List Int)) (Y : World) (lo hi : Nat) (v : Value) : Prop := ∃ sl, v = .agg (arrV sl T) ∧ ∀ c, c < 8 → ∀ i, i < (By.rowOf T c).length → ∃ ad, (sl c).1 = some ad ∧ Y.cell? (ad.add i) = some (.int .i64 ((By.rowOf T c).getD i 0))
def csOf : Value → Array Value | .agg a => a | v => #[v]
def BxP (X : World) (B : Nat) (a t : Bool) (s v : Value) (p : Nat) (ty : TypeId) (z : Array Value) : Prop := a = true → s = .pointer (some ⟨p, 0, none⟩) ∧ B ≤ p ∧ RH X p (p + 1) (fun Y => Blk Y p ty (if t = true then csOf v else z))
def AnP (X : World) (B : Nat) (c : Bool) (v : Value) (lo hi : Nat) (F : World → Nat → Nat → Value → Prop) : Prop := c = true → B ≤ lo ∧ RH X lo hi (fun Y => F Y lo hi v)
def Apt (a c : Bool) (p lo hi : Nat) : Prop := a = true → c = true → p < lo ∨ hi ≤ p
def Nep (a b : Bool) (p q : Nat) : Prop := a = true → b = true → p ≠ q
theorem BxP.below {X Y : World} {B : Nat} {a t : Bool} {s v : Value} {p : Nat} {ty : TypeId} {z : Array Value} (h : BxP X B a t s v p ty z) (hb : Below X.heap.size X Y) : BxP Y B a t s v p ty z := fun ha => ⟨(h ha).1, (h ha).2.1, (h ha).2.2.below hb⟩
def Apr (a c : Bool) (lo hi lo' hi' : Nat) : Prop := a = true → c = true → hi ≤ lo' ∨ hi' ≤ lo
theorem AnP.below {X Y : World} {B : Nat} {c : Bool} {v : Value} {lo hi : Nat} {F : World → Nat → Nat → Value → Prop} (h : AnP X B c v lo hi F) (hb : Below X.heap.size X Y) : AnP Y B c v lo hi F := fun ha => ⟨(h ha).1, (h ha).2.below hb⟩
theorem AnP.apr {X : World} {B : Nat} {c c' : Bool} {v : Value} {lo hi h' : Nat} {F : World → Nat → Nat → Value → Prop} (h : AnP X B c v lo hi F) : Apr c c' lo hi X.heap.size h' := fun hc _ => .inl (h hc).2.1
theorem Apr.symm {a c : Bool} {lo hi lo' hi' : Nat} (h : Apr a c lo hi lo' hi') : Apr c a lo' hi' lo hi := fun x y => (h y x).symm
theorem AnP.apt {X : World} {B : Nat} {a c : Bool} {v : Value} {lo hi : Nat} {F : World → Nat → Nat → Value → Prop} (h : AnP X B c v lo hi F) : Apt a c X.heap.size lo hi := fun _ hc => .inr (h hc).2.1
theorem BxP.apt {X : World} {B : Nat} {a t c : Bool} {s v : Value} {p hi : Nat} {ty : TypeId} {z : Array Value} (h : BxP X B a t s v p ty z) : Apt a c p X.heap.size hi := fun ha _ => .inl (by have := (h ha).2.2.1; omega)
theorem BxP.nep {X : World} {B : Nat} {a t b : Bool} {s v : Value} {p : Nat} {ty : TypeId} {z : Array Value} (h : BxP X B a t s v p ty z) : Nep a b p X.heap.size := fun ha _ => (by have := (h ha).2.2.1; omega)
theorem Nep.symm {a b : Bool} {p q : Nat} (h : Nep a b p q) : Nep b a q p := fun x y => (h y x).symm
theorem BxP.new {X : World} {B : Nat} {v : Value} {ty : TypeId} {z : Array Value} (hB : B ≤ X.heap.size) : BxP (X.alloc (.cells z ty)) B true false (.pointer (some ⟨X.heap.size, 0, none⟩)) v X.heap.size ty z := fun _ => ⟨rfl, hB, RH.box (Blk.new _ _ _)⟩
structure Bxs (X : World) (B : Nat) (F1 F2 F3 : World → Nat → Nat → Value → Prop) (c1 c2 c3 a1 a2 a3 t1 t2 t3 : Bool) (s3 s4 s5 v1 v2 v3 : Value) (l1 h1 l2 h2 l3 h3 p1 p2 p3 : Nat) : Prop where
 r1 : AnP X B c1 v1 l1 h1 F1
 r2 : AnP X B c2 v2 l2 h2 F2
 r3 : AnP X B c3 v3 l3 h3 F3
 q1 : BxP X B a1 t1 s3 v1 p1 41 #[.slice none 0 0]
 q2 : BxP X B a2 t2 s4 v2 p2 41 #[.slice none 0 0]
 q3 : BxP X B a3 t3 s5 v3 p3 93 zer8
 x11 : Apt a1 c1 p1 l1 h1
 x12 : Apt a1 c2 p1 l2 h2
 x13 : Apt a1 c3 p1 l3 h3
 x21 : Apt a2 c1 p2 l1 h1
 x22 : Apt a2 c2 p2 l2 h2
 x23 : Apt a2 c3 p2 l3 h3
 x31 : Apt a3 c1 p3 l1 h1
 x32 : Apt a3 c2 p3 l2 h2
 x33 : Apt a3 c3 p3 l3 h3
 y12 : Nep a1 a2 p1 p2
 y13 : Nep a1 a3 p1 p3
 y23 : Nep a2 a3 p2 p3
 z12 : Apr c1 c2 l1 h1 l2 h2
 z13 : Apr c1 c3 l1 h1 l3 h3
theorem below_set {B p i : Nat} {W X : World} {v : Value} (h : Below B W X) (hB : B ≤ W.heap.size) (hp : B ≤ p) : Below B W (X.setCell ⟨p, i, none⟩ v) :=
 ((Keeps.of_below (U := fun k => k < B) h (fun k hk _ => hk)).setCell (by simp; omega) v).below hB (fun k hk => hk)
theorem AnP.set {X : World} {B p i : Nat} {a c : Bool} {v u : Value} {lo hi : Nat} {F : World → Nat → Nat → Value → Prop} (h : AnP X B c v lo hi F) (ha : a = true) (hx : Apt a c p lo hi) : AnP (X.setCell ⟨p, i, none⟩ u) B c v lo hi F := fun hc => ⟨(h hc).1, (h hc).2.set (hx ha hc)⟩
theorem BxP.set {X : World} {B p' i : Nat} {a b t : Bool} {s v u : Value} {p : Nat} {ty : TypeId} {z : Array Value} (h : BxP X B a t s v p ty z) (hb : b = true) (hx : Nep b a p' p) : BxP (X.setCell ⟨p', i, none⟩ u) B a t s v p ty z := fun ha => ⟨(h ha).1, (h ha).2.1, (h ha).2.2.set (by have := hx hb ha; omega)⟩
theorem BxP.own {X : World} {B : Nat} {a : Bool} {s v z0 : Value} {p : Nat} {ty : TypeId} (h : BxP X B a false s v p ty #[z0]) (hc : csOf v = #[v]) : BxP (X.setCell ⟨p, 0, none⟩ v) B a true s v p ty #[z0] := fun ha => ⟨(h ha).1, (h ha).2.1, RH.box (by have := ((h ha).2.2.now).stored 0 v; simpa [hc] using this)⟩
def HOp (b1 b3 b5 b6 b7 b8 b9 b10 b11 : Bool) : Bool := (!(b9 || b10 || b11) || (b1 && b5 && b6 && b7 && b8)) && (!b5 || b3) && (!b11 || b10) && (!b10 || b9)
theorem ho_1 : ∀ b1 b3 b5 b6 b7 b8 b9 b10 b11 : Bool, HOp b1 b3 b5 b6 b7 b8 b9 b10 b11 = true → HOp true b3 b5 b6 b7 b8 b9 b10 b11 = true := by decide
theorem ho_3 : ∀ b1 b3 b5 b6 b7 b8 b9 b10 b11 : Bool, HOp b1 b3 b5 b6 b7 b8 b9 b10 b11 = true → HOp b1 true b5 b6 b7 b8 b9 b10 b11 = true := by decide
theorem ho_5 : ∀ b1 b3 b5 b6 b7 b8 b9 b10 b11 : Bool, HOp b1 b3 b5 b6 b7 b8 b9 b10 b11 = true → b3 = true → HOp b1 b3 true b6 b7 b8 b9 b10 b11 = true := by decide
theorem ho_6 : ∀ b1 b3 b5 b6 b7 b8 b9 b10 b11 : Bool, HOp b1 b3 b5 b6 b7 b8 b9 b10 b11 = true → HOp b1 b3 b5 true b7 b8 b9 b10 b11 = true := by decide
theorem ho_7 : ∀ b1 b3 b5 b6 b7 b8 b9 b10 b11 : Bool, HOp b1 b3 b5 b6 b7 b8 b9 b10 b11 = true → HOp b1 b3 b5 b6 true b8 b9 b10 b11 = true := by decide
theorem ho_8 : ∀ b1 b3 b5 b6 b7 b8 b9 b10 b11 : Bool, HOp b1 b3 b5 b6 b7 b8 b9 b10 b11 = true → HOp b1 b3 b5 b6 b7 true b9 b10 b11 = true := by decide
theorem ho_9 : ∀ b1 b3 b5 b6 b7 b8 b9 b10 b11 : Bool, HOp b1 b3 b5 b6 b7 b8 b9 b10 b11 = true → b1 = true → b5 = true → b6 = true → b7 = true → b8 = true → HOp b1 b3 b5 b6 b7 b8 true b10 b11 = true := by decide
theorem ho_10 : ∀ b1 b3 b5 b6 b7 b8 b9 b10 b11 : Bool, HOp b1 b3 b5 b6 b7 b8 b9 b10 b11 = true → b9 = true → HOp b1 b3 b5 b6 b7 b8 b9 true b11 = true := by decide
theorem ho_11 : ∀ b1 b3 b5 b6 b7 b8 b9 b10 b11 : Bool, HOp b1 b3 b5 b6 b7 b8 b9 b10 b11 = true → b10 = true → HOp b1 b3 b5 b6 b7 b8 b9 b10 true = true := by decide
theorem ho_t1 : ∀ b1 b3 b5 b6 b7 b8 b9 b10 b11 : Bool, HOp b1 b3 b5 b6 b7 b8 b9 b10 b11 = true → (((b1 && b6) || !b9) && ((b3 && b7) || !b10) && ((b5 && b8) || !b11)) = true := by decide
theorem unt {t : Bool} {X : World} {B : Nat} {a : Bool} {s v v' : Value} {p : Nat} {ty : TypeId} {z : Array Value} (h : BxP X B a t s v p ty z) (ht : t = false) : BxP X B a t s v' p ty z := by subst ht; exact h
end Go.Proofs.YtdaimeaofgbfpaaGreat.Bo
namespace Go.Proofs.YtdaimeaofgbfpaaGreat.Bo
open Go.RowKit Go.Maps
open Mem Rf By
def gRow (P : Pgm) (a : Nat) : List Int := if liveB P a = true then directL P a ++ ocL (tcG P) (viasL P a) else []
def gRows (P : Pgm) : List (List Int) := (List.range P.fn).map (gRow P)
theorem gRows_len (P : Pgm) : (gRows P).length = P.fn := by unfold gRows; simp
theorem gRows_at {P : Pgm} {a : Nat} (h : a < P.fn) : (gRows P).getD a [] = gRow P a := by
 unfold gRows
 rw [List.getD_eq_getElem?_getD, List.getElem?_map, List.getElem?_range h]; rfl
theorem mem_riseN {m : Nat} {l : List Int} {t : Nat} : (t : Int) ∈ rise m l ↔ t < m ∧ (t : Int) ∈ l := by
 unfold rise
 simp only [List.mem_map, List.mem_filter, List.mem_range, List.contains_iff_mem]
 constructor
 ·rintro ⟨a, ⟨h1, h2⟩, e⟩
  obtain rfl : a = t := by omega
  exact ⟨h1, h2⟩
 ·rintro ⟨h1, h2⟩
  exact ⟨t, ⟨h1, h2⟩, rfl⟩
theorem rise_nat {m : Nat} {l : List Int} {z : Int} (h : z ∈ rise m l) : ∃ c : Nat, c < m ∧ z = (c : Int) := by
 unfold rise at h
 simp only [List.mem_map, List.mem_filter, List.mem_range] at h
 obtain ⟨a, ⟨h1, _⟩, e⟩ := h
 exact ⟨a, h1, e.symm⟩
theorem mem_oc {P : Pgm} {i b : Nat} : (b : Int) ∈ ocL (tcG P) (viasL P i) ↔ b < P.fn ∧ takenB P b = true ∧ clV P b ∈ viasL P i := by
 unfold ocL tcG
 rw [List.mem_flatMap]
 constructor
 ·rintro ⟨z, hz, hb⟩
  obtain ⟨c, hc, rfl⟩ := rise_nat hz
  rw [Int.toNat_natCast, acC_row hc] at hb
  simp only [List.mem_map, List.mem_filter, decide_eq_true_eq] at hb
  obtain ⟨a, ⟨h1, h2⟩, e⟩ := hb
  obtain rfl : a = b := by omega
  have h3 := mem_marks.1 h1
  exact ⟨h3.1, h3.2, by rw [h2]; exact hz⟩
 ·rintro ⟨h1, h2, h3⟩
  obtain ⟨c, hc, e⟩ := rise_nat h3
  refine ⟨clV P b, h3, ?_⟩
  rw [e, Int.toNat_natCast, acC_row hc]
  simp only [List.mem_map, List.mem_filter, decide_eq_true_eq]
  exact ⟨b, ⟨mem_marks.2 ⟨h1, h2⟩, e⟩, rfl⟩
theorem gclean (P : Pgm) : Gm.clean (gRows P) = graphG P := by
 unfold Gm.clean Gm.gr graphG
 rw [gRows_len]
 refine List.map_congr_left fun a ha => ?_
 have ha := List.mem_range.1 ha
 have hE : ∀ b, b < P.fn → (Gm.E (gRows P) a b = (gRow P a).contains (b : Int)) := fun b hb => by
  unfold Gm.E
  rw [gRows_len, gRows_at ha]
  simp [ha, hb]
 unfold edgL
 cases hl : liveB P a with
 | false =>
  rw [if_neg (by simp)]
  have : (List.range P.fn).filter (Gm.E (gRows P) a) = [] := by
   rw [List.filter_eq_nil_iff]
   intro b hb
   rw [hE b (List.mem_range.1 hb)]
   unfold gRow
   simp [hl]
  rw [this]; rfl
 | true =>
  rw [if_pos rfl]
  unfold rise
  congr 1
  refine List.filter_congr fun b hb => ?_
  have hb := List.mem_range.1 hb
  rw [hE b hb]
  unfold gRow
  rw [if_pos hl]
  rw [Bool.eq_iff_iff, List.contains_iff_mem, List.contains_iff_mem, List.mem_append, List.mem_append, mem_oc]
  unfold byC
  simp only [List.mem_map, List.mem_filter, List.mem_range, Bool.and_eq_true, List.contains_iff_mem]
  constructor
  ·rintro (h | ⟨h1, h2, h3⟩)
   ·exact .inl h
   ·exact .inr ⟨b, ⟨h1, h2, h3⟩, rfl⟩
  ·rintro (h | ⟨c, ⟨h1, h2, h3⟩, e⟩)
   ·exact .inl h
   ·obtain rfl : c = b := by omega
    exact .inr ⟨h1, h2, h3⟩
theorem tc_row_len (P : Pgm) (c : Nat) : (rowOf (tcG P) c).length ≤ P.fn := by
 by_cases hc : c < 8
 ·exact Nat.le_trans (acC_row_len hc) marks_len
 ·unfold rowOf tcG
  rw [List.getD_eq_getElem?_getD, List.getElem?_eq_none (by rw [acC_len]; omega)]
  simp
theorem oc_len (P : Pgm) (l : List Int) : (ocL (tcG P) l).length ≤ l.length * P.fn := by
 induction l with
 | nil => simp [ocL]
 | cons z l ih =>
  have h := tc_row_len P z.toNat
  have e : ocL (tcG P) (z :: l) = rowOf (tcG P) z.toNat ++ ocL (tcG P) l := by unfold ocL; rw [List.flatMap_cons]
  rw [e, List.length_append, List.length_cons, Nat.succ_mul]
  omega
theorem gRow_len (P : Pgm) (h : P.fn ≤ 24) (a : Nat) : (gRow P a).length ≤ 216 := by
 unfold gRow
 split
 ·have h1 : (directL P a).length ≤ P.fn := rise_len _ _
  have h2 := oc_len P (viasL P a)
  have h3 : (viasL P a).length ≤ 8 := rise_len _ _
  have h4 : (viasL P a).length * P.fn ≤ 8 * 24 := Nat.mul_le_mul h3 h
  rw [List.length_append]; omega
 ·simp
theorem gsmall (P : Pgm) (h : P.fn ≤ 24) : By.Small (gRows P) := by
 refine ⟨by rw [gRows_len]; omega, ?_⟩
 unfold edgesL
 rw [List.length_flatMap, gRows_len]
 have h1 := sum_le (l := List.range P.fn) (f := fun a => (rowE (gRows P) a (rowOf (gRows P) a)).length) (m := 216) (fun a ha => by
  have ha := List.mem_range.1 ha
  unfold rowE
  rw [List.length_map]
  refine Nat.le_trans (List.length_filter_le _ _) ?_
  unfold rowOf
  rw [gRows_at ha]
  exact gRow_len P h a)
 rw [List.length_range] at h1
 have h2 : P.fn * 216 ≤ 24 * 216 := Nat.mul_le_mul_right _ h
 exact Nat.le_trans h1 (by omega)
theorem map_row {n i : Nat} {F : Nat → List Int} (hi : i < n) : rowOf ((List.range n).map F) i = F i := by
 unfold rowOf
 rw [List.getD_eq_getElem?_getD, List.getElem?_map, List.getElem?_range hi]; rfl
theorem gRows_row {P : Pgm} {i : Nat} (hi : i < P.fn) : rowOf (gRows P) i = if i ∈ marks (liveB P) P.fn then directL P i ++ ocL (tcG P) (viasL P i) else [] := by
 unfold gRows
 rw [map_row hi]
 unfold gRow
 by_cases h : liveB P i = true
 ·rw [if_pos h, if_pos (mem_marks.2 ⟨hi, h⟩)]
 ·rw [if_neg h, if_neg (fun h' => h (mem_marks.1 h').2)]
theorem oc_all (P : Pgm) (h : P.fn ≤ 24) (i : Nat) : (directL P i ++ ocL (tcG P) (viasL P i)).length ≤ 216 := by
 have h1 : (directL P i).length ≤ P.fn := rise_len _ _
 have h2 := oc_len P (viasL P i)
 have h3 : (viasL P i).length ≤ 8 := rise_len _ _
 have h4 : (viasL P i).length * P.fn ≤ 8 * 24 := Nat.mul_le_mul h3 h
 rw [List.length_append]; omega
end Go.Proofs.YtdaimeaofgbfpaaGreat.Bo
namespace Go.Proofs.YtdaimeaofgbfpaaGreat.Rf
open Go.RowKit
variable {F : Fence} {n : Nat} {P : Program}
def RecN (d : Nat) (r : Loop) (W : World) : Prop := W.heap[d]? = some (.loop r)
theorem RecN.keep {d : Nat} {r : Loop} {A B : World} {U : Nat → Prop} (h : RecN d r A) (hk : Keeps U A B) (hU : U d) : RecN d r B := (hk.block d hU (Array.getElem?_eq_some_iff.1 h).1).trans h
theorem RecN.put {d : Nat} {r : Loop} {A : World} (r' : Loop) (h : RecN d r A) : RecN d r' (A.putObj d (.loop r')) := World.putObj_heap_same (Array.getElem?_eq_some_iff.1 h).1
def roundEndN {α : Type} (d : Nat) (K : Nat → Prop) (I : List α → World → Prop) (Ix : Code → List α → World → Prop) (xs : List α) (W : World) : Exit → Act → World → Prop
 | .normal, _, W' => Keeps (fun k => K k ∨ k = d) W W' ∧ I xs W'
 | .ret, _, W' => Keeps (fun k => d + 1 ≤ k ∨ k = d) W W' ∧ Ix .ret xs W'
 | .exit id, _, W' => Keeps (fun k => d + 1 ≤ k ∨ k = d) W W' ∧ Ix (.exit id) xs W'
 | .goto t, _, W' => Keeps (fun k => d + 1 ≤ k ∨ k = d) W W' ∧ Ix (.goto t) xs W'
 | .panic _, _, _ => False
 | .outgrown, _, _ => False
theorem TellsX.inRound {α : Type} {g : Nat} {lb : Array Value} {encs : α → Array Value} {U T : Nat → Nat → Prop} {xs : List α} {w : World} (l : Nat) (h : TellsX F n P g lb encs U T xs w) : TellsX (F.inRound l) n P g lb encs U T xs w := h
theorem wpIn_rangeXN {α : Type} {g : Operand} {ps : Array Tmp} {assign body : Code} {Q : Exit → Act → World → Prop} {a : Act} {w : World}
  {l₀ : Nat} {r₀ : Loop} (hro : F.round = some l₀) (hl₀ : w.heap[l₀]? = some (.loop r₀)) (h1 : 1 ≤ n) {gf : Nat} {lb : Array Value} (hg : a.eval g = .func (.func gf) #[] lb) (hFg : F.fn gf) (eg : ∀ args w, (callFunc gf args).run P w = .ok (.enter gf args) w)
  {encs : α → Array Value} {U T : Nat → Nat → Prop} {xs : List α} {w0 : World} (hseq : TellsX F (n - 1) P gf lb encs U T xs w0) (hb0 : Below w0.heap.size w0 w) (hps : ∀ x, (encs x).size = ps.size)
  (V : Nat → Prop) (hV : ¬ V w.heap.size) (hVT : ∀ k, V k → T (w.heap.size + 1) k) (hTT : T (w.heap.size + 1) w.heap.size) (hU : ¬ U (w.heap.size + 1) w.heap.size)
  (I : List α → World → Prop) (Ix : Code → List α → World → Prop) (hI : ∀ s A B, I s A → Keeps V A B → I s B) (hIx : ∀ c s A B, Ix c s A → Keeps (fun k => k < w.heap.size) A B → (∀ p, B.cell? p = A.cell? p) → Ix c s B)
  (h0 : I [] w) (a₁ : α → World → Act) (aw : α → World → World) (haw : ∀ x W, Keeps (fun _ => True) W (aw x W))
  (hassign : ∀ (l : Nat) (x : α) (W : World) (K : Act → World → Prop), K (a₁ x W) (aw x W) →
   assign.wpIn (F.inRound l) (n - 1 - 1) P (Exit.then K (fun _ _ _ => False)) { tmps := (ps.zip (encs x)).foldl (fun t (p, v) => t.setIfInBounds p v) a.tmps, defers := [] } W)
  (hbody : ∀ (l : Nat) (pre : List α) (x : α) (V0 W : World), I pre W → pre ++ [x] <+: xs → w.heap.size + 1 ≤ V0.heap.size → Keeps (fun k => k ≠ w.heap.size) (aw x V0) W → (∀ p, W.cell? p = (aw x V0).cell? p) →
   body.wpIn (F.inRound l) (n - 1 - 1) P (roundEndN w.heap.size (U (w.heap.size + 1)) I Ix (pre ++ [x]) W) (a₁ x V0) W)
  (hdone : ∀ (W : World), I xs W → Q .normal a W)
  (hstop : ∀ (c : Code) (pre : List α) (W : World), pre <+: xs → Ix c pre W → c.wpIn F n P Q a W) :
  (Code.rangeFunc g ps assign body).wpIn F n P Q a w := by
 refine wpIn_rangeFunc fun fn hfn => ?_
 rw [hro]
 obtain ⟨r, hr⟩ : ∃ r : LoopState → Option Code → Loop, r = fun st pe => { state := st, pending := pe, fn := fn, tmps := a.tmps, params := ps, assign := assign, body := body, defers := r₀.defers } := ⟨_, rfl⟩
 obtain ⟨W1, hW1⟩ : ∃ W1, w.alloc (.loop (r .ready none)) = W1 := ⟨_, rfl⟩
 have hs1 : W1.heap.size = w.heap.size + 1 := by rw [← hW1]; simp
 have hR1 : RecN w.heap.size (r .ready none) W1 := by
  rw [← hW1]
  exact World.alloc_heap_new w _
 have hk1 : Keeps V w W1 := by rw [← hW1]; exact (Keeps.refl V w).alloc _
 have hb1 : Below w0.heap.size w0 W1 := by
  rw [← hW1]; exact hb0.trans (((Below.refl _ w).alloc (Nat.le_refl _) _).mono hb0.size)
 refine ⟨w.heap.size, [], W1, { target := .fn (.func gf) lb, args := #[.func (.yield w.heap.size) #[] #[]] }, W1, gf,
  #[.func (.yield w.heap.size) #[] #[]] ++ lb, W1, ?_, ?_, ?_, ?_, fun _ => h1, ?_⟩
 ·rw [← hW1, hr]; exact run_enterLoop_inner hl₀ _ _ _ _ _
 ·simp only [resolve, hg]
  simp [go_sem]
 ·intro f' hf'; simp [Target.leads] at hf'; subst hf'; exact hFg
 ·simp [invoke, go_sem, eg]
 refine (hseq w.heap.size (fun pre W => I pre W ∧ RecN w.heap.size (r .ready none) W) (fun pre W => ∃ c, Ix c pre W ∧ RecN w.heap.size (r .done (some c)) W) W1 hb1
  (fun s A B hs hk => ⟨hI s A B hs.1 (hk.mono fun k hv _ => hs1 ▸ hVT k hv), hs.2.keep hk (hs1 ▸ hTT)⟩)
  (fun s A B ⟨c, h1, h2⟩ hk hc => ⟨c, hIx _ _ _ _ h1 (hk.mono fun k hlt _ => by omega) hc, h2.keep hk (by omega)⟩)
  ?_ ⟨hI _ _ _ h0 hk1, hR1⟩).mono ?_
 ·rintro pre x V0 ⟨hi0, hrec0⟩ hpre
  have hy := run_yield (P := P) (args := encs x) hrec0 (by rw [hr]; exact hps x)
  have hk0 := haw x V0
  have hsz0 : w.heap.size + 1 ≤ V0.heap.size := by have := (Array.getElem?_eq_some_iff.1 hrec0).1; omega
  have hst : (r .ready none).state = .ready := by rw [hr]
  obtain ⟨B, hB⟩ : ∃ B : Loop, B = { r .ready none with state := .busy } := ⟨_, rfl⟩
  have hrec : RecN w.heap.size (r .ready none) (aw x V0) := hrec0.keep hk0 trivial
  refine ⟨fn, _, assign, body, by rw [hy, hr], roundIn_of_wpIn hfn (hassign _ x V0 _ ⟨_, run_beginRound hrec hst, ?_⟩)⟩
  rw [← hB]
  have hi : I pre (aw x V0) := hI _ _ _ hi0 (hk0.mono fun _ _ _ => trivial)
  have HB := hbody w.heap.size pre x V0 ((aw x V0).putObj w.heap.size (.loop B)) (hI _ _ _ hi ((Keeps.refl V _).putObj hV _)) hpre hsz0 ((Keeps.refl (fun k => k ≠ w.heap.size) _).putObj (l := w.heap.size) (by simp) _) (cell_putLoop hrec)
  obtain ⟨W, hW⟩ : ∃ W, aw x V0 = W := ⟨_, rfl⟩
  rw [hW] at hk0 hrec hi HB ⊢
  have hrb : RecN w.heap.size B (W.putObj w.heap.size (.loop B)) := hrec.put B
  have hi2 : I pre (W.putObj w.heap.size (.loop B)) := hI _ _ _ hi ((Keeps.refl V W).putObj hV _)
  have hsz : w.heap.size + 1 ≤ W.heap.size := by have := (Array.getElem?_eq_some_iff.1 hrec).1; omega
  refine wpIn_mono HB ?_
  have fin : ∀ (j : Option Code) (W3 : World), RecN w.heap.size B W3 →
    (Instr.endRound w.heap.size j).run P W3 = .ok (.bool j.isNone) (W3.putObj w.heap.size (.loop (r (if j.isNone then .ready else .done) j))) ∧
    RecN w.heap.size (r (if j.isNone then .ready else .done) j) (W3.putObj w.heap.size (.loop (r (if j.isNone then .ready else .done) j))) := fun j W3 h3 => by
   have := run_endRound (P := P) j h3
   rw [hB, hr] at this
   refine ⟨by rw [this, hr], h3.put _⟩
  have hX : ∀ {W3 : World} {o : Obj}, Keeps (fun k => w.heap.size + 1 ≤ k ∨ k = w.heap.size) (W.putObj w.heap.size (.loop B)) W3 → Keeps (fun k => W1.heap.size ≤ k) V0 (W3.putObj w.heap.size o) := fun hk3 => by
   rw [hs1]
   refine (hk0.mono fun _ _ _ => trivial).trans ?_
   exact (((Keeps.refl (fun k => w.heap.size + 1 ≤ k) W).putObj (l := w.heap.size) (by simp) _).trans (hk3.mono fun k h _ => .inl h)).putObj (l := w.heap.size) (by simp) _
  intro e a3 W3 hp
  cases e with
  | normal =>
   obtain ⟨hk3, hi3⟩ := hp
   obtain ⟨hrun, hr3⟩ := fin none W3 (hrb.keep hk3 (.inr rfl))
   refine ⟨_, _, hrun, .inl ⟨rfl, ⟨hI _ _ _ hi3 ((Keeps.refl V W3).putObj hV _), hr3⟩, ?_⟩⟩
   rw [hs1]
   refine (hk0.mono fun _ _ _ => trivial).trans ?_
   exact (((Keeps.refl _ W).putObj hU _).trans (hk3.mono fun k h _ => .inl h)).putObj hU _
  | ret =>
   obtain ⟨hk3, hi3⟩ := hp
   have hrb3 := hrb.keep hk3 (.inr rfl)
   obtain ⟨hrun, hr3⟩ := fin (some .ret) W3 hrb3
   exact ⟨_, _, hrun, .inr ⟨rfl, ⟨.ret, hIx _ _ _ _ hi3 ((Keeps.refl (fun k => k < w.heap.size) W3).putObj (l := w.heap.size) (by simp) _) (cell_putLoop hrb3), hr3⟩, hX hk3⟩⟩
  | exit id =>
   obtain ⟨hk3, hi3⟩ := hp
   have hrb3 := hrb.keep hk3 (.inr rfl)
   obtain ⟨hrun, hr3⟩ := fin (some (.exit id)) W3 hrb3
   exact ⟨_, _, hrun, .inr ⟨rfl, ⟨.exit id, hIx _ _ _ _ hi3 ((Keeps.refl (fun k => k < w.heap.size) W3).putObj (l := w.heap.size) (by simp) _) (cell_putLoop hrb3), hr3⟩, hX hk3⟩⟩
  | goto t =>
   obtain ⟨hk3, hi3⟩ := hp
   have hrb3 := hrb.keep hk3 (.inr rfl)
   obtain ⟨hrun, hr3⟩ := fin (some (.goto t)) W3 hrb3
   exact ⟨_, _, hrun, .inr ⟨rfl, ⟨.goto t, hIx _ _ _ _ hi3 ((Keeps.refl (fun k => k < w.heap.size) W3).putObj (l := w.heap.size) (by simp) _) (cell_putLoop hrb3), hr3⟩, hX hk3⟩⟩
  | panic ch => exact hp.elim
  | outgrown => exact hp.elim
 ·rintro e W2 ⟨⟨v, rfl⟩, (⟨hi, hrec⟩ | ⟨pre, hpre, c, hi, hrec⟩)⟩
  ·have hb : (r .ready none).state ≠ .busy := by rw [hr]; simp
   have := run_endLoop (P := P) hrec hb
   refine ⟨none, _, by rw [this, hr], hdone _ (hI _ _ _ hi ((Keeps.refl V W2).putObj hV _))⟩
  ·have hb : (r .done (some c)).state ≠ .busy := by rw [hr]; simp
   have := run_endLoop (P := P) hrec hb
   refine ⟨some c, _, by rw [this, hr], hstop c pre _ hpre (hIx _ _ _ _ hi ((Keeps.refl (fun k => k < w.heap.size) W2).putObj (l := w.heap.size) (by simp) _) (cell_putLoop hrec))⟩
end Go.Proofs.YtdaimeaofgbfpaaGreat.Rf
namespace Go.Proofs.YtdaimeaofgbfpaaGreat.Bo
open Go.RowKit Go.Maps
open Mem Rf
def gE (pre : List Nat) (vs : Nat → Value) (i : Nat) : Value := if i ∈ pre then vs i else .slice none 0 0
def gR (pre : List Nat) (R0 R1 : Nat → List Int) (i : Nat) : List Int := if i ∈ pre then R1 i else R0 i
structure GIv (n gb lo hi rb sz : Nat) (R0 R1 : Nat → List Int) (dv : Nat → Value) (pre : List Nat) (vs : Nat → Value) (X : World) : Prop where
 blk : Blk X gb 44 (By.arrN n (gE pre vs))
 old : ∀ i, i ∉ pre → vs i = dv i
 rows : RowS X lo n (fun k => (k < hi ∧ k ≠ rb) ∨ sz ≤ k) (gR pre R0 R1) vs
section
variable {n gb lo hi rb sz : Nat} {R0 R1 : Nat → List Int} {dv vs : Nat → Value} {pre : List Nat} {X Y : World}
theorem GIv.start (hb : Blk X gb 44 (Array.replicate n (.slice none 0 0))) (hr : RowS X lo n (fun k => k < hi ∧ k ≠ rb) R0 dv) : GIv n gb lo hi rb sz R0 R1 dv [] dv X := by
 refine ⟨?_, fun _ _ => rfl, fun i hi => ?_, hr.2⟩
 ·rw [By.arrN_rep] at hb
  have : By.arrN n (gE [] dv) = By.arrN n (fun _ => Value.slice none 0 0) := by unfold gE; simp
  rw [this]; exact hb
 ·have h1 := hr.1 i hi
  unfold gR
  rw [if_neg (by simp)]
  exact ⟨h1.1, fun k e => .inl (h1.2 k e)⟩
theorem GIv.keep (h : GIv n gb lo hi rb sz R0 R1 dv pre vs X) (hk : ∀ k, (k = gb ∨ (lo ≤ k ∧ k < hi ∧ k ≠ rb) ∨ sz ≤ k) → k < X.heap.size → Y.heap[k]? = X.heap[k]?) : GIv n gb lo hi rb sz R0 R1 dv pre vs Y := by
 refine ⟨(hk gb (.inl rfl) h.blk.lt).trans h.blk, h.old, fun i hi => ?_, h.rows.2⟩
 obtain ⟨h1, h2⟩ := h.rows.1 i hi
 refine ⟨By.own_keep h1 fun g hg hl e => hk g ?_ hl, h2⟩
 rcases h2 g e with h3 | h3
 ·exact .inr (.inl ⟨hg, h3⟩)
 ·exact .inr (.inr h3)
theorem GIv.row (h : GIv n gb lo hi rb sz R0 R1 dv pre vs X) {x : Nat} (hx : x < n) (hp : x ∉ pre) : X.ownsRow lo 3 1 (dv x) (R0 x).length (By.ints (R0 x)) ∧ ∀ k, (dv x).ownBlock = some k → k < hi ∧ k ≠ rb ∨ sz ≤ k := by
 have h1 := h.rows.1 x hx
 rw [h.old x hp] at h1
 unfold gR at h1
 rw [if_neg hp] at h1
 exact h1
theorem own_slice {v : Value} {m : Nat} {xs : List Value} (h : X.ownsRow lo 3 1 v m xs) : ∃ A c, v = .slice A m c := by
 rcases h.2 with ⟨e, e2⟩ | ⟨g, cap, cur, e, _⟩
 ·exact ⟨none, 0, by rw [e, e2]⟩
 ·exact ⟨_, _, e⟩
theorem GIv.next (h : GIv n gb lo hi rb sz R0 R1 dv pre vs X) {x : Nat} (hx : x < n) (hp : x ∉ pre) {v : Value} (hgb : hi ≤ gb) (hgs : gb < sz) (hsz : sz ≤ X.heap.size)
  (hb : Blk Y gb 44 ((By.arrN n (gE pre vs)).setIfInBounds x v)) (ho : Y.ownsRow lo 3 1 v (R1 x).length (By.ints (R1 x)))
  (hv : v.ownBlock = (dv x).ownBlock ∨ ∃ k, v.ownBlock = some k ∧ X.heap.size ≤ k)
  (hk : ∀ k, k < X.heap.size → k ≠ gb → (dv x).ownBlock ≠ some k → Y.heap[k]? = X.heap[k]?) :
  GIv n gb lo hi rb sz R0 R1 dv (pre ++ [x]) (fun i => if i = x then v else vs i) Y := by
 have hvx : vs x = dv x := h.old x hp
 have hng : ∀ i, i < n → (vs i).ownBlock ≠ some gb := fun i hi' e => by
  rcases (h.rows.1 i hi').2 gb e with h3 | h3 <;> omega
 refine ⟨?_, fun i hi' => ?_, fun i hi' => ?_, fun i j hi' hj hij => ?_⟩
 ·rw [By.arrN_set] at hb
  have : (fun j => if j = x then v else gE pre vs j) = gE (pre ++ [x]) (fun i => if i = x then v else vs i) := by
   funext j
   unfold gE
   by_cases e : j = x
   ·subst e; simp
   ·simp [e]
  rw [← this]; exact hb
 ·have h1 : i ∉ pre := fun h' => hi' (by simp [h'])
  have h2 : ¬ i = x := fun e => hi' (by simp [e])
  show (if i = x then v else vs i) = dv i
  rw [if_neg h2]; exact h.old i h1
 ·show Y.ownsRow lo 3 1 (if i = x then v else vs i) _ _ ∧ _
  by_cases e : i = x
  ·subst e
   rw [if_pos rfl]
   have e1 : gR (pre ++ [i]) R0 R1 i = R1 i := by unfold gR; simp
   rw [e1]
   refine ⟨ho, fun k e2 => ?_⟩
   dsimp only at e2
   rw [if_pos rfl] at e2
   rcases hv with h3 | ⟨k', h3, h4⟩
   ·rw [h3, ← hvx] at e2; exact (h.rows.1 i hi').2 k e2
   ·rw [h3] at e2; cases e2; exact .inr (by omega)
  ·rw [if_neg e]
   have e1 : gR (pre ++ [x]) R0 R1 i = gR pre R0 R1 i := by unfold gR; simp [e]
   rw [e1]
   obtain ⟨h1, h2⟩ := h.rows.1 i hi'
   refine ⟨By.own_keep h1 fun g hg hl e2 => hk g hl (fun e3 => hng i hi' (e3 ▸ e2)) (fun e3 => ?_), fun k e2 => h2 k (by dsimp only at e2; rw [if_neg e] at e2; exact e2)⟩
   rcases h.rows.2 x i hx hi' (fun e4 => e e4.symm) with h5 | h5
   ·rw [hvx] at h5; rw [h5] at e3; cases e3
   ·exact h5 (by rw [hvx, e3, e2])
 ·have key : ∀ k, k < n → k ≠ x → v.ownBlock = none ∨ v.ownBlock ≠ (vs k).ownBlock := fun k hk' hkx => by
   rcases hv with h3 | ⟨q, h3, h4⟩
   ·rw [h3, ← hvx]; exact h.rows.2 x k hx hk' (fun e => hkx e.symm)
   ·right; rw [h3]; intro e
    have := ((h.rows.1 k hk').1.lt q e.symm).2
    omega
  show (if i = x then v else vs i).ownBlock = none ∨ (if i = x then v else vs i).ownBlock ≠ (if j = x then v else vs j).ownBlock
  by_cases e1 : i = x
  ·rw [if_pos e1, if_neg (fun e => hij (e1.trans e.symm))]
   exact key j hj (fun e => hij (e1.trans e.symm))
  ·rw [if_neg e1]
   by_cases e2 : j = x
   ·rw [if_pos e2]
    rcases key i hi' e1 with h5 | h5
    ·rw [h5]
     cases e : (vs i).ownBlock with
     | none => exact .inl rfl
     | some q => right; simp
    ·exact .inr fun e => h5 e.symm
   ·rw [if_neg e2]; exact h.rows.2 i j hi' hj hij
theorem GIv.gr (h : GIv n gb lo hi rb sz R0 R1 dv pre vs X) {L : List (List Int)} (hL : L.length = n) (hR : ∀ i, i < n → By.rowOf L i = if i ∈ pre then R1 i else []) (hn : n ≤ maxLen) : By.Gr X X.heap.size (.slice (some ⟨gb, 0, none⟩) n n) L := by
 refine ⟨(List.range n).map (gE pre vs), ?_, by simp [hL], fun i rv hi' => ?_⟩
 ·have := SlV.at_ (w := X) (B := X.heap.size) ⟨gb, 0, none⟩ n ((List.range n).map (gE pre vs)) (by simp) hn fun j u hu => ⟨h.blk.lt, by
   rw [add_plain, Nat.zero_add, h.blk.cell]
   unfold By.arrN
   rw [List.getElem?_toArray, hu]⟩
  simpa using this
 ·rw [List.getElem?_map] at hi'
  by_cases hin : i < n
  ·rw [List.getElem?_range hin] at hi'
   have e : gE pre vs i = rv := by simpa using hi'
   subst e
   rw [hR i hin]
   unfold gE
   by_cases hp : i ∈ pre
   ·rw [if_pos hp, if_pos hp]
    have h1 := (h.rows.1 i hin).1
    unfold gR at h1
    rw [if_pos hp] at h1
    obtain ⟨A, c, e⟩ := own_slice h1
    exact ⟨A, c, e, SlV.of_own h1⟩
   ·rw [if_neg hp, if_neg hp]
    exact ⟨none, 0, rfl, SlV.of_own (World.ownsRow_nil X lo 3 1)⟩
  ·rw [List.getElem?_eq_none (by simp; omega)] at hi'; cases hi'
end
theorem arrV_inj {sl sl' : Nat → Option Addr × Nat} {T : List (List Int)} (h : Value.agg (arrV sl T) = .agg (arrV sl' T)) : ∀ c, c < 8 → sl c = sl' c := by
 injection h with h
 unfold arrV at h
 simp only [Array.mk.injEq, List.cons.injEq, Value.slice.injEq, and_true, true_and] at h
 obtain ⟨⟨a0, b0⟩, ⟨a1, b1⟩, ⟨a2, b2⟩, ⟨a3, b3⟩, ⟨a4, b4⟩, ⟨a5, b5⟩, ⟨a6, b6⟩, a7, b7⟩ := h
 intro c hc
 have : c = 0 ∨ c = 1 ∨ c = 2 ∨ c = 3 ∨ c = 4 ∨ c = 5 ∨ c = 6 ∨ c = 7 := by omega
 rcases this with rfl | rfl | rfl | rfl | rfl | rfl | rfl | rfl
 ·exact Prod.ext a0 b0
 ·exact Prod.ext a1 b1
 ·exact Prod.ext a2 b2
 ·exact Prod.ext a3 b3
 ·exact Prod.ext a4 b4
 ·exact Prod.ext a5 b5
 ·exact Prod.ext a6 b6
 ·exact Prod.ext a7 b7
theorem RowS.on {X Y : World} {lo n : Nat} {ok : Nat → Prop} {R R' : Nat → List Int} {vs : Nat → Value} (h : RowS X lo n ok R vs) (hR : ∀ i, i < n → R i = R' i) (hb : Below X.heap.size X Y) : RowS Y lo n ok R' vs :=
 ⟨fun i hi => ⟨by rw [← hR i hi]; exact By.own_keep (h.1 i hi).1 fun g _ hl _ => hb.block g hl, (h.1 i hi).2⟩, h.2⟩
def RIv (gb lo x : Nat) (A0 : Array Value) (R0 : List Int) (d : Value) (Z : World) (pre : List Int) (v : Value) (Y : World) : Prop :=
 Blk Y gb 44 (A0.setIfInBounds x v) ∧ Y.ownsRow lo 3 1 v (R0 ++ pre).length (By.ints (R0 ++ pre)) ∧ (v.ownBlock = d.ownBlock ∨ ∃ k, v.ownBlock = some k ∧ Z.heap.size + 1 ≤ k) ∧ Keeps (fun k => k < Z.heap.size ∧ k ≠ gb ∧ d.ownBlock ≠ some k) Z Y
section
variable {gb lo hi rb x : Nat} {A0 : Array Value} {R0 pre : List Int} {d v v' : Value} {Z Y w' : World} {z : Int}
theorem RIv.keep {B : World} (h : RIv gb lo x A0 R0 d Z pre v Y) (hk : Keeps (fun k => k ≠ Z.heap.size) Y B) (hg : gb < Z.heap.size) (hd : ∀ k, d.ownBlock = some k → k < Z.heap.size) : RIv gb lo x A0 R0 d Z pre v B := by
 obtain ⟨h1, h2, h3, h4⟩ := h
 refine ⟨(hk.block gb (by omega) h1.lt).trans h1, By.own_keep h2 fun g _ hl e => hk.block g ?_ hl, h3, h4.trans (hk.mono fun k h _ => by omega)⟩
 rcases h3 with h3 | ⟨k, h3, h5⟩
 ·rw [h3] at e; have := hd g e; omega
 ·rw [h3] at e; cases e; omega
theorem RIv.next (h : RIv gb lo x A0 R0 d Z pre v Y) (hgb : hi ≤ gb) (hgz : gb < Z.heap.size) (hd : ∀ k, d.ownBlock = some k → lo ≤ k ∧ k < hi ∧ k ≠ rb) (hzs : Z.heap.size + 1 ≤ Y.heap.size)
  (h2 : w'.ownsRow lo 3 1 v' ((R0 ++ pre).length + 1) (By.ints (R0 ++ pre) ++ [.int .i64 z])) (h3 : (Y.drew.alloc (.cells #[.int .i64 z] 3)).grownBy w' v.ownBlock)
  (h4 : v'.ownBlock = v.ownBlock ∨ v'.ownBlock = some (Y.drew.alloc (.cells #[.int .i64 z] 3)).heap.size) :
  Keeps (fun k => (k < Z.heap.size ∧ k ≠ gb ∧ (k < lo ∨ hi ≤ k ∨ k = rb)) ∨ k = Z.heap.size) Y (w'.setCell ⟨gb, x, none⟩ v') ∧ RIv gb lo x A0 R0 d Z (pre ++ [z]) v' (w'.setCell ⟨gb, x, none⟩ v') := by
 obtain ⟨q1, q2, q3, q4⟩ := h
 have hvg : ∀ k, v.ownBlock = some k → (lo ≤ k ∧ k < hi ∧ k ≠ rb) ∨ Z.heap.size + 1 ≤ k := fun k e => by
  rcases q3 with q3 | ⟨k', q3, q5⟩
  ·rw [q3] at e; exact .inl (hd k e)
  ·rw [q3] at e; cases e; exact .inr q5
 have hK : Keeps (fun k => v.ownBlock ≠ some k) Y w' := (((Keeps.refl (fun k => v.ownBlock ≠ some k) Y).drew).alloc _).grown h3 (fun r e h => h e)
 have hK2 : ∀ S : Nat → Prop, (∀ k, S k → v.ownBlock ≠ some k ∧ k ≠ gb) → Keeps S Y (w'.setCell ⟨gb, x, none⟩ v') := fun S hS => (hK.mono fun k h _ => (hS k h).1).setCell (fun h => (hS _ h).2 rfl) _
 have hng : v.ownBlock ≠ some gb := fun e => by rcases hvg gb e with h | h <;> omega
 refine ⟨hK2 _ fun k hk => ⟨fun e => ?_, by omega⟩, ?_, ?_, ?_, q4.trans (hK2 _ fun k hk => ⟨fun e => ?_, hk.2.1⟩)⟩
 ·rcases hvg k e with h | h <;> omega
 ·have hb' : Blk w' gb 44 (A0.setIfInBounds x v) := (hK.block gb hng q1.lt).trans q1
  have := hb'.stored x v'
  rwa [Array.setIfInBounds_setIfInBounds] at this
 ·have e1 : (R0 ++ (pre ++ [z])).length = (R0 ++ pre).length + 1 := by simp; omega
  have e2 : By.ints (R0 ++ (pre ++ [z])) = By.ints (R0 ++ pre) ++ [.int .i64 z] := by unfold By.ints; simp
  rw [e1, e2]
  refine By.own_keep h2 fun g _ _ e => Below.heap_setCell _ _ _ _ ?_
  show g ≠ gb
  intro e3
  subst e3
  rcases h4 with h4 | h4
  ·rw [h4] at e; exact hng e
  ·rw [h4] at e
   simp at e
   omega
 ·rcases h4 with h4 | h4
  ·rw [h4]; exact q3
  ·exact .inr ⟨_, h4, by simp; omega⟩
 ·rcases q3 with q3 | ⟨k', q3, q5⟩
  ·rw [q3] at e; exact hk.2.2 e
  ·rw [q3] at e; cases e; omega
end
theorem marks_not {f : Nat → Bool} {n : Nat} {pre : List Nat} {x : Nat} (h : pre ++ [x] <+: marks f n) : x ∉ pre := by
 have h1 : (marks f n).Nodup := List.Pairwise.filter _ List.nodup_range
 have h2 := h.sublist.nodup h1
 rw [List.nodup_append] at h2
 intro hx
 exact h2.2.2 x hx x (by simp) rfl
theorem vrow {n lo hi : Nat} {V : List (List Int)} {X : World} {v : Value} (h : RH X lo hi (fun Y => FRw n V Y lo hi v)) (hV : V.length = n) : ∃ rb, v = .slice (some ⟨rb, 0, none⟩) n n ∧ lo ≤ rb ∧ rb < hi ∧
  ∀ x, x < n → ∃ A c, ∀ Y, Keeps (fun k => lo ≤ k ∧ k < hi) X Y → Y.cell? ⟨rb, x, none⟩ = some (.slice A (By.rowOf V x).length c) ∧ ∀ j, j < (By.rowOf V x).length → ∃ ad, A = some ad ∧ Y.cell? (ad.add j) = some (.int .i64 ((By.rowOf V x).getD j 0)) := by
 obtain ⟨rb, base, rfl, h1, h2, h3, hg⟩ := h.now
 refine ⟨rb, rfl, h1, h2, fun x hx => ?_⟩
 obtain ⟨rv, hc, _, _, _, ⟨A, c, rfl⟩, _⟩ := hg.at_ h3 (a := x) (by omega)
 refine ⟨A, c, fun Y hY => ?_⟩
 have hcY : Y.cell? ⟨rb, x, none⟩ = some (.slice A (By.rowOf V x).length c) := hY.cell (by show lo ≤ rb ∧ rb < hi; omega) hc
 refine ⟨hcY, fun j hj => ?_⟩
 obtain ⟨rb', base', e, _, _, h3', hg'⟩ := h.2 Y hY
 obtain rfl : rb = rb' := by injection e with e _ _; injection e with e; injection e
 obtain ⟨rv', hc', _, _, hown, ⟨A', c', rfl⟩, _⟩ := hg'.at_ h3' (a := x) (by omega)
 rw [hcY] at hc'
 obtain ⟨rfl, rfl⟩ : A = A' ∧ c = c' := by injection hc' with e; injection e with e1 _ e2; exact ⟨e1, e2⟩
 obtain ⟨A2, c2, e2, hil⟩ := own_il (by rw [flat_encI]; exact hown)
 injection e2 with e3 e4 e5
 subst e3 e5
 obtain ⟨ad, e, _, hcell⟩ := hil.at_ hj
 exact ⟨ad, e, hcell⟩
theorem trow {lo hi : Nat} {T : List (List Int)} {X : World} {v : Value} (h : RH X lo hi (fun Y => FAr T Y lo hi v)) : ∃ sl, v = .agg (arrV sl T) ∧
  ∀ Y, Keeps (fun k => lo ≤ k ∧ k < hi) X Y → ∀ c, c < 8 → ∀ i, i < (By.rowOf T c).length → ∃ ad, (sl c).1 = some ad ∧ Y.cell? (ad.add i) = some (.int .i64 ((By.rowOf T c).getD i 0)) := by
 obtain ⟨sl, rfl, _⟩ := h.now
 refine ⟨sl, rfl, fun Y hY c hc i hi => ?_⟩
 obtain ⟨sl', e, h2⟩ := h.2 Y hY
 rw [arrV_inj e c hc]
 exact h2 c hc i hi
end Go.Proofs.YtdaimeaofgbfpaaGreat.Bo
