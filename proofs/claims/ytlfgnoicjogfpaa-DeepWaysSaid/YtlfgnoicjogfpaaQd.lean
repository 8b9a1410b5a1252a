/-
  WALKS of layer 6: the queue's calls. WALKS of layer 6: the queue's Put, Take, Drop. WALKS of layer 6: the queue's Drop.
-/
import Derived.Test.YtlfgnoicjogfpaaQq
namespace Go.Proofs.Ytlfgnoicjogfpaa.Qu
open Go.RowKit Go.Maps
set_option maxRecDepth 100000
open Mem Hp

/-- A queue that New made: it has just the things of S, n of them, no two with one id. -/
structure Qs (w : World) (q : Nat) (U : Nat → Prop) (n : Nat) (S : It → Prop) : Prop where
  ex : ∃ p, Blk w q 159 #[.pointer (some ⟨p, 0, none⟩)] ∧ HeapAt w p U n S
  qu : ¬ U q

theorem Qs.kept {w w' : World} {q : Nat} {U V : Nat → Prop} {n : Nat} {S : It → Prop} (h : Qs w q U n S) (ht : Tn V w w') (hd : ∀ b, U b → ¬ V b) (hq : ¬ V q) : Qs w' q U n S := by
  obtain ⟨⟨p, hb, f, hp, hh, hS⟩, hqu⟩ := h
  exact ⟨⟨p, (ht.block q hb.lt hq).trans hb, f, hp.kept ht hd, hh, hS⟩, hqu⟩

theorem Qs.below {w w' : World} {q : Nat} {U : Nat → Prop} {n : Nat} {S : It → Prop} (h : Qs w q U n S) (hb : Below w.heap.size w w') : Qs w' q U n S :=
  h.kept (V := fun _ => False) (Tn.of_below hb) (fun _ _ => id) id

theorem Qs.lt {w : World} {q : Nat} {U : Nat → Prop} {n : Nat} {S : It → Prop} (h : Qs w q U n S) : q < w.heap.size ∧ ∀ b, U b → b < w.heap.size := by
  obtain ⟨⟨p, hb, f, hp, _⟩, _⟩ := h
  exact ⟨hb.lt, hp.lt⟩

theorem Qs.inj {w : World} {q : Nat} {U : Nat → Prop} {n : Nat} {S : It → Prop} (h : Qs w q U n S) {x y : It} (hx : S x) (hy : S y) (e : x.1 = y.1) : x = y := by
  obtain ⟨⟨p, hb, f, hp, hh, hS⟩, _⟩ := h
  obtain ⟨i, hi, rfl⟩ := (hS x).1 hx
  obtain ⟨j, hj, rfl⟩ := (hS y).1 hy
  rw [hp.inj hi hj e]

theorem Qs.inn {w : World} {q : Nat} {U : Nat → Prop} {n : Nat} {S : It → Prop} (h : Qs w q U n S) {x : It} (hx : S x) : In64 x.1 ∧ In64 x.2 := by
  obtain ⟨⟨p, hb, f, hp, hh, hS⟩, _⟩ := h
  obtain ⟨i, hi, rfl⟩ := (hS x).1 hx
  exact hp.congr i hi

theorem Qs.none {w : World} {q : Nat} {U : Nat → Prop} {S : It → Prop} (h : Qs w q U 0 S) (x : It) : ¬ S x := by
  obtain ⟨⟨p, hb, f, hp, hh, hS⟩, _⟩ := h
  intro hx
  obtain ⟨i, hi, _⟩ := (hS x).1 hx
  omega

theorem Qs.few {w : World} {q : Nat} {U : Nat → Prop} {n : Nat} {S : It → Prop} (h : Qs w q U n S) : n ≤ 1000 := by
  obtain ⟨⟨p, hb, f, hp, hh, hS⟩, _⟩ := h
  exact hp.few

theorem Qs.congr {w : World} {q : Nat} {U : Nat → Prop} {n : Nat} {S S' : It → Prop} (h : Qs w q U n S) (e : ∀ x, S x ↔ S' x) : Qs w q U n S' := by
  obtain ⟨⟨p, hb, f, hp, hh, hS⟩, hqu⟩ := h
  exact ⟨⟨p, hb, f, hp, hh, fun x => (e x).symm.trans (hS x)⟩, hqu⟩

/-- New. -/
theorem new_any (w : World) :
    Calls Try.prog 134 #[] w fun e w' => e = .returned (.pointer (some ⟨w.heap.size + 2, 0, none⟩)) ∧ Qs w' (w.heap.size + 2) (fun b => w.heap.size ≤ b ∧ b < w.heap.size + 2) 0 (fun _ => False) ∧ Below w.heap.size w w' := by
  have HE : Hid (Qs (((w.alloc (.map #[] 0)).alloc (.cells #[.slice none 0 0, .map (some w.heap.size)] 168)).alloc (.cells #[.pointer (some ⟨w.heap.size + 1, 0, none⟩)] 159)) (w.heap.size + 2) (fun b => w.heap.size ≤ b ∧ b < w.heap.size + 2) 0 (fun _ => False)) := Lib.hid (by
    refine ⟨⟨w.heap.size + 1, ?_, fun _ => (0, 0), ⟨w.heap.size, .slice none 0 0, .map [], ?_, ?_, ?_, ⟨rfl, fun a => ?_, fun k hk => by omega⟩, by omega, fun g hg => (by cases hg), ⟨by omega, by omega⟩, ⟨by omega, by omega⟩, fun b hb => ?_, fun k hk => by omega, by omega, by omega⟩, fun c _ hc => by omega, fun x => ?_⟩, fun h => by omega⟩
    · have := Blk.new ((w.alloc (.map #[] 0)).alloc (.cells #[.slice none 0 0, .map (some w.heap.size)] 168)) 159 #[.pointer (some ⟨w.heap.size + 1, 0, none⟩)]
      simpa using this
    · have := (Blk.new (w.alloc (.map #[] 0)) 168 #[.slice none 0 0, .map (some w.heap.size)]).alloc (.cells #[.pointer (some ⟨w.heap.size + 1, 0, none⟩)] 159)
      simpa using this
    · exact World.ownsRow_nil _ _ _ _
    · exact ((World.ownsMap_made w Try.prog 3 (plainElem Try.prog 3)).alloc _).alloc _
    · constructor
      · intro h; cases h
      · rintro ⟨k, hk, _⟩; omega
    · have := hb.2; simp; omega
    · constructor
      · exact False.elim
      · rintro ⟨k, hk, _⟩; omega)
  have hmm := @run_makeMap Try.prog
  go_enter Try.func134, Try.ntmps134
  go_wp2_with fail
  go_ret
  exact ⟨rfl, HE.out, (((Below.refl _ _).alloc (Nat.le_refl _) _).alloc (by simp) _).alloc (by simp; omega) _⟩

theorem nobody_of (w : World) (q p : Nat) (h : Blk w q 159 #[.pointer (some ⟨p, 0, none⟩)]) :
    Calls Try.prog 135 #[.pointer (some ⟨q, 0, none⟩)] w fun e w' => e = .returned (.bool false) ∧ w = w' := by
  have c0 : w.cell? ⟨q, 0, none⟩ = some (.pointer (some ⟨p, 0, none⟩)) := by rw [h.cell]; rfl
  clear h
  go_enter Try.func135, Try.ntmps135
  go_wp2_with fail
  go_ret
  exact ⟨rfl, rfl⟩

theorem zero3 (w : World) : (zeroValue 3).run Try.prog w = .ok (.int .i64 0) w := by kernel_rfl

/-- What a look into the pile's map gives. -/
theorem look_eq (w : World) (m n : Nat) (D : DataW Unit) (f : Nat → It) (h : w.ownsMap Try.prog 3 (plainElem Try.prog 3) m n D) (hi : MapIs D n f) (a : Int) (ha : In64 a) :
    (∃ k, k < n ∧ (f k).1 = a ∧ (Instr.lookup 166 (.map (some m)) (.int .i64 a) true).run Try.prog w = .ok (.tuple #[.int .i64 k, .bool true]) w) ∨
    ((∀ k, k < n → (f k).1 ≠ a) ∧ (Instr.lookup 166 (.map (some m)) (.int .i64 a) true).run Try.prog w = .ok (.tuple #[.int .i64 0, .bool false]) w) := by
  obtain ⟨v, ps, hrun, hv⟩ := h.look_ok law Try.underlying166 (zero3 w) (plainElem_int Try.underlying3 (by decide)) (keyOf_int_mk Try.underlying3 (wf64 ha))
  obtain ⟨c, rfl, hc, _⟩ := plainElem_int_inv Try.underlying3 hv
  have hc1 := congrArg Prod.fst hc
  cases hh : Maps.has D (kid a) with
  | true =>
    left
    obtain ⟨k, hk, rfl⟩ := (hi.has a).1 hh
    refine ⟨k, hk, rfl, ?_⟩
    have h1 := hi.at_ k hk
    have h2 : (kn k : DataW Unit) = .lit (.int .i64 c) := h1.symm.trans hc1
    injection h2 with h2
    injection h2 with _ h2
    rw [hrun, hh, h2]
  | false =>
    right
    refine ⟨fun k hk e => ?_, ?_⟩
    · have := (hi.has a).2 ⟨k, hk, e⟩
      rw [hh] at this
      cases this
    · have h2 : (DataW.lit (.int .i64 0) : DataW Unit) = .lit (.int .i64 c) := (atKey_of_not_has hh _).symm.trans hc1
      injection h2 with h2
      injection h2 with _ h2
      rw [hrun, hh, h2]

theorem find_yes (w : World) (q p m : Nat) (v : Value) (k : Nat) (a : Int) (hq : Blk w q 159 #[.pointer (some ⟨p, 0, none⟩)]) (hp : Blk w p 168 #[v, .map (some m)])
    (hrun : (Instr.lookup 166 (.map (some m)) (.int .i64 a) true).run Try.prog w = .ok (.tuple #[.int .i64 k, .bool true]) w) :
    Calls Try.prog 140 #[.pointer (some ⟨q, 0, none⟩), .int .i64 a] w fun e w' => e = .returned (.tuple #[.int .i64 k, .bool true]) ∧ w = w' := by
  have HN := Lib.hid (nobody_of w q p hq)
  have c0 : w.cell? ⟨q, 0, none⟩ = some (.pointer (some ⟨p, 0, none⟩)) := by rw [hq.cell]; rfl
  have c1 : w.cell? ⟨p, 1, none⟩ = some (.map (some m)) := by rw [hp.cell]; rfl
  clear hq hp
  go_enter Try.func140, Try.ntmps140
  go_wp2_with fail
  refine HN.out.mono ?_
  rintro e w' ⟨rfl, rfl⟩
  go_wp2_with fail
  go_ret2
  exact ⟨rfl, rfl⟩

theorem find_no (w : World) (q p m : Nat) (v : Value) (a : Int) (hq : Blk w q 159 #[.pointer (some ⟨p, 0, none⟩)]) (hp : Blk w p 168 #[v, .map (some m)])
    (hrun : (Instr.lookup 166 (.map (some m)) (.int .i64 a) true).run Try.prog w = .ok (.tuple #[.int .i64 0, .bool false]) w) :
    Calls Try.prog 140 #[.pointer (some ⟨q, 0, none⟩), .int .i64 a] w fun e w' => e = .returned (.tuple #[.int .i64 0, .bool false]) ∧ w = w' := by
  have HN := Lib.hid (nobody_of w q p hq)
  have c0 : w.cell? ⟨q, 0, none⟩ = some (.pointer (some ⟨p, 0, none⟩)) := by rw [hq.cell]; rfl
  have c1 : w.cell? ⟨p, 1, none⟩ = some (.map (some m)) := by rw [hp.cell]; rfl
  clear hq hp
  go_enter Try.func140, Try.ntmps140
  go_wp2_with fail
  refine HN.out.mono ?_
  rintro e w' ⟨rfl, rfl⟩
  go_wp2_with fail
  go_ret2
  exact ⟨rfl, rfl⟩

/-- Len. -/
theorem qlen_any (w : World) (q : Nat) (U : Nat → Prop) (n : Nat) (S : It → Prop) (h : Qs w q U n S) :
    Calls Try.prog 101 #[.pointer (some ⟨q, 0, none⟩)] w fun e w' => e = .returned (.int .i64 n) ∧ w = w' := by
  obtain ⟨⟨p, hb, f, hp, hh, hS⟩, hqu⟩ := h
  have HN := Lib.hid (nobody_of w q p hb)
  have HL := Lib.hid (len_any w p U n n f hp)
  have c0 : w.cell? ⟨q, 0, none⟩ = some (.pointer (some ⟨p, 0, none⟩)) := by rw [hb.cell]; rfl
  clear hb hp hh hS hqu
  go_enter Try.func101, Try.ntmps101
  go_wp2_with fail
  refine HN.out.mono ?_
  rintro e w' ⟨rfl, rfl⟩
  go_wp2_with fail
  refine HL.out.mono ?_
  rintro e w' ⟨rfl, rfl⟩
  go_wp2_with fail
  go_ret
  exact ⟨rfl, rfl⟩

/-- Key. -/
theorem key_yes (w : World) (q : Nat) (U : Nat → Prop) (n : Nat) (S : It → Prop) (h : Qs w q U n S) (x : It) (hx : S x) :
    Calls Try.prog 104 #[.pointer (some ⟨q, 0, none⟩), .int .i64 x.1] w fun e w' => e = .returned (.tuple #[.int .i64 x.2, .bool true]) ∧ w = w' := by
  have hin := h.inn hx
  obtain ⟨⟨p, hb, f, ⟨m, v, D, hp⟩, hh, hS⟩, hqu⟩ := h
  obtain ⟨i, hi, rfl⟩ := (hS x).1 hx
  rcases look_eq w m n D f hp.map hp.is (f i).1 hin.1 with ⟨k, hk, e, hrun⟩ | ⟨hno, _⟩
  · obtain rfl := hp.is.inj hk hi e
    obtain ⟨g, c, rfl⟩ := hp.there (by omega)
    have HF := Lib.hid (find_yes w q p m _ k _ hb hp.blk hrun)
    have c0 : w.cell? ⟨q, 0, none⟩ = some (.pointer (some ⟨p, 0, none⟩)) := by rw [hb.cell]; rfl
    have c1 : w.cell? ⟨p, 0, none⟩ = some (.slice (some ⟨g, 0, none⟩) n c) := by rw [hp.blk.cell]; rfl
    have r1 : w.cell? ⟨g, k * 2 + 1, none⟩ = some (.int .i64 (f k).2) := by rw [hp.row.cellAt _ (by omega), flat_key n f k hi]
    have few := hp.few
    have hk0 : (0 : Int) ≤ (k : Int) := by omega
    have hk1 : (k : Int) < (n : Int) := by omega
    generalize (f k).1 = a at *
    generalize (f k).2 = b at *
    clear hb hp hh hS hqu hrun e hx hin
    go_enter Try.func104, Try.ntmps104
    go_wp2_with fail
    refine HF.out.mono ?_
    rintro e w' ⟨rfl, rfl⟩
    go_wp2_with fail
    go_ret2
    exact ⟨rfl, rfl⟩
  · exact absurd rfl (hno i hi)

theorem key_no (w : World) (q : Nat) (U : Nat → Prop) (n : Nat) (S : It → Prop) (h : Qs w q U n S) (a : Int) (ha : In64 a) (hx : ∀ y, S y → y.1 ≠ a) :
    Calls Try.prog 104 #[.pointer (some ⟨q, 0, none⟩), .int .i64 a] w fun e w' => e = .returned (.tuple #[.int .i64 0, .bool false]) ∧ w = w' := by
  obtain ⟨⟨p, hb, f, ⟨m, v, D, hp⟩, hh, hS⟩, hqu⟩ := h
  rcases look_eq w m n D f hp.map hp.is a ha with ⟨k, hk, e, hrun⟩ | ⟨_, hrun⟩
  · exact absurd e (hx (f k) ((hS _).2 ⟨k, hk, rfl⟩))
  · have HF := Lib.hid (find_no w q p m v a hb hp.blk hrun)
    clear hb hp hh hS hqu hrun hx ha
    go_enter Try.func104, Try.ntmps104
    go_wp2_with fail
    refine HF.out.mono ?_
    rintro e w' ⟨rfl, rfl⟩
    go_wp2_with fail
    go_ret2
    exact ⟨rfl, rfl⟩
end Go.Proofs.Ytlfgnoicjogfpaa.Qu

namespace Go.Proofs.Ytlfgnoicjogfpaa.Qu
open Go.RowKit Go.Maps
open Mem Hp

theorem Tn.drew {U : Nat → Prop} {a b : World} (h : Tn U a b) : Tn U a b.drew := ⟨h.os, h.tape, h.output, h.size, h.block⟩
theorem Tn.blk {U : Nat → Prop} {a b : World} {g : Nat} {t : TypeId} {cs : Array Value} (h : Tn U a b) (hb : Blk a g t cs) (hu : ¬ U g) : Blk b g t cs := (h.block g hb.lt hu).trans hb
theorem HeapAt.below {w w' : World} {p : Nat} {U : Nat → Prop} {n : Nat} {S : It → Prop} (h : HeapAt w p U n S) (hb : Below w.heap.size w w') : HeapAt w' p U n S := by
  obtain ⟨f, hp, r⟩ := h
  exact ⟨f, hp.below hb, r⟩

def PutPost (w : World) (q : Nat) (U : Nat → Prop) (n : Nat) (S : It → Prop) (x : It) (e : Ending) (w' : World) : Prop :=
  e = .returned (.bool true) ∧ Qs w' q (Gr U w w') (n + 1) (fun y => S y ∨ y = x) ∧ Tn U w w'

set_option maxHeartbeats 1000000 in
theorem put_yes (w : World) (q : Nat) (U : Nat → Prop) (n : Nat) (S : It → Prop) (h : Qs w q U n S) (x : It) (hx : In64 x.1 ∧ In64 x.2) (hn : n < 1000) (hnew : ∀ y, S y → y.1 ≠ x.1) :
    Calls Try.prog 106 #[.pointer (some ⟨q, 0, none⟩), .int .i64 x.1, .int .i64 x.2] w (PutPost w q U n S x) := by
  have HQ := Lib.hid h
  obtain ⟨⟨p, hb, hH⟩, hqu⟩ := h
  have HH := Lib.hid hH
  obtain ⟨f, ⟨m, v, D, hp⟩, hh, hS⟩ := hH
  have HN := Lib.hid (nobody_of w q p hb)
  have HB := Lib.hid hb
  have HF : Hid (Calls Try.prog 140 #[.pointer (some ⟨q, 0, none⟩), .int .i64 x.1] w fun e w' => e = .returned (.tuple #[.int .i64 0, .bool false]) ∧ w = w') := Lib.hid (by
    rcases look_eq w m n D f hp.map hp.is x.1 hx.1 with ⟨k, hk, e, hrun⟩ | ⟨_, hrun⟩
    · exact absurd e (hnew (f k) ((hS _).2 ⟨k, hk, rfl⟩))
    · exact find_no w q p m v x.1 hb hp.blk hrun)
  have HP := Lib.hid (hpush_any w p U n S HH.out x hx hn hnew)
  have c0 : w.cell? ⟨q, 0, none⟩ = some (.pointer (some ⟨p, 0, none⟩)) := by rw [hb.cell]; rfl
  clear hb hp hh hS hx hnew
  go_enter Try.func106, Try.ntmps106
  go_wp2_with fail
  refine HN.out.mono ?_
  rintro e w' ⟨rfl, rfl⟩
  go_wp2_with fail
  refine HF.out.mono ?_
  rintro e w' ⟨rfl, rfl⟩
  go_wp2_with fail
  refine HP.out.mono ?_
  rintro e w1 ⟨rfl, hh1, ht1⟩
  have HE : Hid (Qs w1 q (Gr U w w1) (n + 1) (fun y => S y ∨ y = x) ∧ Tn U w w1) := Lib.hid ⟨⟨⟨p, ht1.blk HB.out hqu, hh1⟩, fun hg => by
    rcases hg with hg | hg
    · exact hqu hg
    · have := HB.out.lt; omega⟩, ht1⟩
  clear hh1 ht1
  go_wp2_with fail
  go_ret
  exact ⟨rfl, HE.out⟩

theorem put_no (w : World) (q : Nat) (U : Nat → Prop) (n : Nat) (S : It → Prop) (h : Qs w q U n S) (a b : Int) (x : It) (hx : S x) (e : x.1 = a) :
    Calls Try.prog 106 #[.pointer (some ⟨q, 0, none⟩), .int .i64 a, .int .i64 b] w fun e w' => e = .returned (.bool false) ∧ w = w' := by
  subst e
  have hin := h.inn hx
  obtain ⟨⟨p, hb, f, ⟨m, v, D, hp⟩, hh, hS⟩, hqu⟩ := h
  have HN := Lib.hid (nobody_of w q p hb)
  obtain ⟨i, hi, rfl⟩ := (hS x).1 hx
  rcases look_eq w m n D f hp.map hp.is (f i).1 hin.1 with ⟨k, hk, e, hrun⟩ | ⟨hno, _⟩
  · have HF := Lib.hid (find_yes w q p m _ k _ hb hp.blk hrun)
    have few := hp.few
    clear hb hp hh hS hqu hrun e hx hin
    go_enter Try.func106, Try.ntmps106
    go_wp2_with fail
    refine HN.out.mono ?_
    rintro e w' ⟨rfl, rfl⟩
    go_wp2_with fail
    refine HF.out.mono ?_
    rintro e w' ⟨rfl, rfl⟩
    go_wp2_with fail
    go_ret
    exact ⟨rfl, rfl⟩
  · exact absurd rfl (hno i hi)

theorem take_no (w : World) (q : Nat) (U : Nat → Prop) (S : It → Prop) (h : Qs w q U 0 S) :
    Calls Try.prog 102 #[.pointer (some ⟨q, 0, none⟩)] w fun e w' => e = .returned (.tuple #[.int .i64 0, .int .i64 0, .bool false]) ∧ w = w' := by
  have HL := Lib.hid (qlen_any w q U 0 S h)
  clear h
  go_enter Try.func102, Try.ntmps102
  go_wp2_with fail
  refine HL.out.mono ?_
  rintro e w' ⟨rfl, rfl⟩
  go_wp2_with fail
  go_ret3
  exact ⟨rfl, rfl⟩

/-- What Take leaves. -/
def TakePost (w : World) (q : Nat) (U : Nat → Prop) (n : Nat) (S : It → Prop) (e : Ending) (w' : World) : Prop :=
  ∃ x : It, e = .returned (.tuple #[.int .i64 x.1, .int .i64 x.2, .bool true]) ∧ S x ∧ (∀ y, S y → le x y) ∧ Qs w' q U n (fun y => S y ∧ y ≠ x) ∧ Tn U w w'

/-- Behind forget. -/
theorem forgot {w w1 w2 : World} {q p : Nat} {U : Nat → Prop} {n : Nat} {S : It → Prop} {f : Nat → It} (hb : Blk w q 159 #[.pointer (some ⟨p, 0, none⟩)]) (hqu : ¬ U q) (hp1 : Pile w1 p U n (n + 1) f)
    (hh : Heap n f) (hS : ∀ y, S y ↔ ∃ k, k < n + 1 ∧ f k = y) (hp : Pile w2 p U n n f) (ht : Tn U w w2) : Qs w2 q U n (fun y => S y ∧ y ≠ f n) := by
  refine ⟨⟨p, ht.blk hb hqu, f, hp, hh, fun y => ?_⟩, hqu⟩
  show (S y ∧ y ≠ f n) ↔ _
  rw [hS]
  constructor
  · rintro ⟨⟨k, hk, rfl⟩, hne⟩
    exact ⟨k, by rcases Nat.lt_or_ge k n with h | h; exact h; exact absurd (by rw [show k = n by omega]) hne, rfl⟩
  · rintro ⟨k, hk, rfl⟩
    refine ⟨⟨k, by omega, rfl⟩, fun e => ?_⟩
    have := hp1.inj (i := k) (j := n) (by omega) (by omega) (by rw [e])
    omega

/-- The call's own variable is written. -/
theorem late {w w2 : World} {q V : Nat} {U : Nat → Prop} {n : Nat} {S : It → Prop} (h : Qs w2 q U n S) (ht : Tn U w w2) (hV : w.heap.size ≤ V) (hu : ¬ U V) (hq : q < w.heap.size) (a b : Value) :
    Qs ((w2.setCell ⟨V, 0, none⟩ a).setCell ⟨V, 1, none⟩ b) q U n S ∧ Tn U w ((w2.setCell ⟨V, 0, none⟩ a).setCell ⟨V, 1, none⟩ b) :=
  ⟨h.kept (V := fun x => x = V) (((Tn.refl (fun x => x = V) w2).setCell (p := ⟨V, 0, none⟩) (.inl rfl) a).setCell (p := ⟨V, 1, none⟩) (.inl rfl) b) (fun _ hx e => hu (e ▸ hx)) (by omega),
   (ht.setCell (p := ⟨V, 0, none⟩) (.inr hV) a).setCell (p := ⟨V, 1, none⟩) (.inr hV) b⟩

/-- A variable of the call's own, as the walk wants to know it. -/
theorem var_facts {w : World} {V : Nat} {t : TypeId} (h : Blk w V t #[.int .i64 0, .int .i64 0]) (a b : Value) :
    w.cell? ⟨V, 0, none⟩ = some (.int .i64 0) ∧ w.cell? ⟨V, 1, none⟩ = some (.int .i64 0) ∧ w.frozen? ⟨V, 0, none⟩ = false ∧ w.frozen? ⟨V, 1, none⟩ = false ∧
    (w.setCell ⟨V, 0, none⟩ a).cell? ⟨V, 0, none⟩ = some a ∧ ((w.setCell ⟨V, 0, none⟩ a).setCell ⟨V, 1, none⟩ b).cell? ⟨V, 1, none⟩ = some b := by
  refine ⟨by rw [h.cell]; rfl, by rw [h.cell]; rfl, h.frozen 0, h.frozen 1, ?_, ?_⟩
  · have := Blk.cell (h.stored 0 a) 0
    simpa using this
  · have := Blk.cell ((h.stored 0 a).stored 1 b) 1
    simpa using this

set_option maxHeartbeats 4000000 in
set_option maxRecDepth 100000 in
theorem take_yes (w : World) (q : Nat) (U : Nat → Prop) (n : Nat) (S : It → Prop) (h : Qs w q U (n + 1) S) :
    Calls Try.prog 102 #[.pointer (some ⟨q, 0, none⟩)] w (TakePost w q U n S) := by
  have HL := Lib.hid (qlen_any w q U (n + 1) S h)
  obtain ⟨⟨p, hb, hH⟩, hqu⟩ := h
  have HH := Lib.hid hH
  have HB := Lib.hid hb
  have HLT : Hid (∀ b, U b → b < w.heap.size) := Lib.hid (by obtain ⟨f, hp, _⟩ := hH; exact hp.lt)
  have c0 : w.cell? ⟨q, 0, none⟩ = some (.pointer (some ⟨p, 0, none⟩)) := by rw [hb.cell]; rfl
  have hn0 : (((n + 1 : Nat) : Int) == 0) = false := by simp; omega
  have hqlt := hb.lt
  have nw := World.new_ne w _ c0
  have NU : Hid (¬ U w.heap.size) := Lib.hid (fun hu => by have := HLT.out _ hu; omega)
  clear hb hH
  go_enter Try.func102, Try.ntmps102
  go_wp2_with fail
  refine HL.out.mono ?_
  rintro e w' ⟨rfl, rfl⟩
  go_wp2_with fail
  go_region_held3 (fun w' => w'.cell? ⟨q, 0, none⟩ = some (.pointer (some ⟨p, 0, none⟩))) (first | go_keep | assumption)
    (first
    | (go_at_call 138; refine (hpop_any _ p U n S (HH.out.below (by first | exact (Below.refl _ _).drew | exact (Below.refl _ _).drew.alloc (Nat.le_refl _) _))).mono ?_; rintro e w1 ⟨x, rfl, ⟨hSx, hle⟩, ⟨f, hp1, hh1, hfx, hS1⟩, ht1⟩; subst hfx; have d0 : w1.cell? ⟨q, 0, none⟩ = some (.pointer (some ⟨p, 0, none⟩)) := (World.cell?_of_block (ht1.block q (by first | exact hqlt | (simp; omega)) hqu)).trans (by first | exact c0 | go_keep); have nw1 := World.new_ne w1 _ d0; have NU1 : Hid (¬ U w1.heap.size) := Lib.hid (fun hu => by have := hp1.lt _ hu; omega))
    | (go_at_call 137; refine (forget_any _ p U n f (hp1.below (by first | exact (Below.refl _ _) | exact (Below.refl _ _).alloc (Nat.le_refl _) _))).mono ?_; rintro e w2 ⟨rfl, hp2, ht2⟩; have hq1 : q < w1.heap.size := World.block_lt_of_cell? w1 _ d0; have d1 : w2.cell? ⟨q, 0, none⟩ = some (.pointer (some ⟨p, 0, none⟩)) := (World.cell?_of_block (ht2.block q (by first | exact hq1 | (simp; omega)) hqu)).trans (by first | exact d0 | go_keep); have nw2 := World.new_ne w2 _ d1;
        first
        | (have bl : Blk w2 w.heap.size 161 #[.int .i64 0, .int .i64 0] := ht2.blk (ht1.blk (Blk.new w.drew 161 #[.int .i64 0, .int .i64 0]) NU.out) NU.out; obtain ⟨k0, k1, k2, k3, k4, k5⟩ := var_facts bl (.int .i64 (f n).1) (.int .i64 (f n).2); have HT2 := Lib.hid ((((Tn.refl U w).drew.alloc _).andThen ht1).andThen ht2); have HE := Lib.hid (late (forgot HB.out hqu hp1 hh1 hS1 hp2 HT2.out) HT2.out (V := w.heap.size) (Nat.le_refl _) NU.out hqlt (.int .i64 (f n).1) (.int .i64 (f n).2)); clear bl)
        | (have bl : Blk w2 w1.heap.size 161 #[.int .i64 0, .int .i64 0] := ht2.blk (Blk.new w1 161 #[.int .i64 0, .int .i64 0]) NU1.out; obtain ⟨k0, k1, k2, k3, k4, k5⟩ := var_facts bl (.int .i64 (f n).1) (.int .i64 (f n).2); have HT2 := Lib.hid ((((Tn.refl U w).drew.andThen ht1).alloc _).andThen ht2); have HE := Lib.hid (late (forgot HB.out hqu hp1 hh1 hS1 hp2 HT2.out) HT2.out (V := w1.heap.size) ht1.size NU1.out hqlt (.int .i64 (f n).1) (.int .i64 (f n).2)); clear bl)
        | (have HT2 := Lib.hid (((Tn.refl U w).drew.andThen ht1).andThen ht2); have HE := Lib.hid (And.intro ((forgot HB.out hqu hp1 hh1 hS1 hp2 HT2.out).below ((Below.refl _ _).alloc (Nat.le_refl _) (.cells #[.int .i64 (f n).1, .int .i64 (f n).2] 161))) (HT2.out.alloc (.cells #[.int .i64 (f n).1, .int .i64 (f n).2] 161))))))
  all_goals
    have HSx := Lib.hid (And.intro hSx hle)
    clear hSx hle hp1 hh1 hS1 ht1 hp2 ht2 d0 d1 c0 nw nw1 nw2
    go_wp2_with fail
    go_quiet (fail)
    go_wp2_with fail
    go_ret3
    exact ⟨f n, rfl, HSx.out.1, HSx.out.2, HE.out.1.below (below_drewN (Below.refl _ _) _), HE.out.2.drewN _⟩
end Go.Proofs.Ytlfgnoicjogfpaa.Qu

namespace Go.Proofs.Ytlfgnoicjogfpaa.Qu
open Go.RowKit Go.Maps
open Mem Hp

def DropPost (w : World) (q : Nat) (U : Nat → Prop) (n : Nat) (S : It → Prop) (a : Int) (e : Ending) (w' : World) : Prop :=
  e = .returned (.bool true) ∧ Qs w' q U n (fun y => S y ∧ y.1 ≠ a) ∧ Tn U w w'

set_option maxHeartbeats 4000000 in
set_option maxRecDepth 100000 in
theorem drop_yes (w : World) (q : Nat) (U : Nat → Prop) (n : Nat) (S : It → Prop) (h : Qs w q U (n + 1) S) (a : Int) (x : It) (hx : S x) (ha : x.1 = a) :
    Calls Try.prog 105 #[.pointer (some ⟨q, 0, none⟩), .int .i64 a] w (DropPost w q U n S a) := by
  subst ha
  have hin := h.inn hx
  have HQ := Lib.hid h
  obtain ⟨⟨p, hb, f, ⟨m, v, D, hp⟩, hh, hS⟩, hqu⟩ := h
  obtain ⟨i, hi, rfl⟩ := (hS x).1 hx
  rcases look_eq w m (n + 1) D f hp.map hp.is (f i).1 hin.1 with ⟨k, hk, e, hrun⟩ | ⟨hno, _⟩
  · obtain rfl := hp.is.inj hk hi e
    have HF := Lib.hid (find_yes w q p m _ k _ hb hp.blk hrun)
    have HB := Lib.hid hb
    have HP : Hid (Pile w p U (n + 1) (n + 1) f) := Lib.hid ⟨m, v, D, hp⟩
    have HR := Lib.hid (fun W hW => hremove_any W p U n S f hW hh hS k hk)
    have HX := Lib.hid hx
    have c0 : w.cell? ⟨q, 0, none⟩ = some (.pointer (some ⟨p, 0, none⟩)) := by rw [hb.cell]; rfl
    have hqlt := hb.lt
    have few := hp.few
    generalize hfk : f k = x at HF HR HX ⊢
    clear hb hp hh hS hrun e hx hin hfk
    go_enter Try.func105, Try.ntmps105
    go_wp2_with fail
    refine HF.out.mono ?_
    rintro e w' ⟨rfl, rfl⟩
    go_wp2_with fail
    go_region_held3 (fun w' => w'.cell? ⟨q, 0, none⟩ = some (.pointer (some ⟨p, 0, none⟩))) (first | go_keep | assumption)
      (first
      | (go_at_call 141; refine (HR.out _ (HP.out.below (Below.refl _ _).drew)).mono ?_; rintro e w1 ⟨y, rfl, hxy, ⟨g, hp1, hh1, hgx, hS1⟩, ht1⟩; subst hgx; have HXY := Lib.hid hxy; clear hxy; have d0 : w1.cell? ⟨q, 0, none⟩ = some (.pointer (some ⟨p, 0, none⟩)) := (World.cell?_of_block (ht1.block q hqlt hqu)).trans (by first | exact c0 | go_keep))
      | (go_at_call 137; refine (forget_any _ p U n g hp1).mono ?_; rintro e w2 ⟨rfl, hp2, ht2⟩; have hq1 : q < w1.heap.size := World.block_lt_of_cell? w1 _ d0; have d1 : w2.cell? ⟨q, 0, none⟩ = some (.pointer (some ⟨p, 0, none⟩)) := (World.cell?_of_block (ht2.block q hq1 hqu)).trans (by first | exact d0 | go_keep)))
    have HT2 := Lib.hid (((Tn.refl U w).drew.andThen ht1).andThen ht2)
    have HE := Lib.hid (forgot HB.out hqu hp1 hh1 hS1 hp2 HT2.out)
    clear hp1 hh1 hS1 ht1 hp2 ht2 d0 d1 c0
    go_wp2_with fail
    go_ret
    refine ⟨rfl, HE.out.congr fun y => ?_, HT2.out⟩
    show (S y ∧ y ≠ g n) ↔ _
    rw [show g n = x from HXY.out]
    constructor
    · rintro ⟨h1, h2⟩
      exact ⟨h1, fun e => h2 (HQ.out.inj h1 HX.out e)⟩
    · rintro ⟨h1, h2⟩
      exact ⟨h1, fun e => h2 (by rw [e])⟩
  · exact absurd rfl (hno i hi)

theorem drop_no (w : World) (q : Nat) (U : Nat → Prop) (n : Nat) (S : It → Prop) (h : Qs w q U n S) (a : Int) (ha : In64 a) (hx : ∀ y, S y → y.1 ≠ a) :
    Calls Try.prog 105 #[.pointer (some ⟨q, 0, none⟩), .int .i64 a] w fun e w' => e = .returned (.bool false) ∧ w = w' := by
  obtain ⟨⟨p, hb, f, ⟨m, v, D, hp⟩, hh, hS⟩, hqu⟩ := h
  rcases look_eq w m n D f hp.map hp.is a ha with ⟨k, hk, e, hrun⟩ | ⟨_, hrun⟩
  · exact absurd e (hx (f k) ((hS _).2 ⟨k, hk, rfl⟩))
  · have HF := Lib.hid (find_no w q p m v a hb hp.blk hrun)
    clear hb hp hh hS hqu hrun hx ha
    go_enter Try.func105, Try.ntmps105
    go_wp2_with fail
    refine HF.out.mono ?_
    rintro e w' ⟨rfl, rfl⟩
    go_wp2_with fail
    go_ret
    exact ⟨rfl, rfl⟩
end Go.Proofs.Ytlfgnoicjogfpaa.Qu
