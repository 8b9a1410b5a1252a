/-
  WALKS of layer 6: the queue's calls.
-/
import Derived.Test.YtajlbiohaafpnaaQq
namespace Go.Proofs.Ytajlbiohaafpnaa.Qu
open Go.RowKit Go.Maps
open Mem Hp

/-- A queue that New made: it has just the things of S, n of them, no two with one id. -/
structure Qs (w : World) (q : Nat) (U : Nat → Prop) (n : Nat) (S : It → Prop) : Prop where
  ex : ∃ p, Blk w q 46 #[.pointer (some ⟨p, 0, none⟩)] ∧ HeapAt w p U n S
  qu : ¬ U q

theorem Qs.kept {w w' : World} {q : Nat} {U V : Nat → Prop} {n : Nat} {S : It → Prop} (h : Qs w q U n S) (ht : Tn V w w') (hd : ∀ b, U b → ¬ V b) (hq : ¬ V q) : Qs w' q U n S := by
  obtain ⟨⟨p, hb, f, hp, hh, hS⟩, hqu⟩ := h
  exact ⟨⟨p, (ht.block q hb.lt hq).trans hb, f, hp.kept ht hd, hh, hS⟩, hqu⟩

theorem Qs.below {w w' : World} {q : Nat} {U : Nat → Prop} {n : Nat} {S : It → Prop} (h : Qs w q U n S) (hb : Below w.heap.size w w') : Qs w' q U n S :=
  h.kept (V := fun _ => False) (Tn.of_below hb) (fun _ _ => id) id

theorem Qs.lt {w : World} {q : Nat} {U : Nat → Prop} {n : Nat} {S : It → Prop} (h : Qs w q U n S) : q < w.heap.size ∧ ∀ b, U b → b < w.heap.size := by
  obtain ⟨⟨p, hb, f, hp, _⟩, _⟩ := h
  exact ⟨hb.lt, hp.lt⟩

theorem Qs.inj {w : World} {q : Nat} {U : Nat → Prop} {n : Nat} {S : It → Prop} (h : Qs w q U n S) {x y : It} (hx : S x) (hy : S y) (e : x.1 = y.1) : x = y := by
  obtain ⟨⟨p, hb, f, hp, hh, hS⟩, _⟩ := h
  obtain ⟨i, hi, rfl⟩ := (hS x).1 hx
  obtain ⟨j, hj, rfl⟩ := (hS y).1 hy
  rw [hp.inj hi hj e]

theorem Qs.inn {w : World} {q : Nat} {U : Nat → Prop} {n : Nat} {S : It → Prop} (h : Qs w q U n S) {x : It} (hx : S x) : In64 x.1 ∧ In64 x.2 := by
  obtain ⟨⟨p, hb, f, hp, hh, hS⟩, _⟩ := h
  obtain ⟨i, hi, rfl⟩ := (hS x).1 hx
  exact hp.congr i hi

theorem Qs.none {w : World} {q : Nat} {U : Nat → Prop} {S : It → Prop} (h : Qs w q U 0 S) (x : It) : ¬ S x := by
  obtain ⟨⟨p, hb, f, hp, hh, hS⟩, _⟩ := h
  intro hx
  obtain ⟨i, hi, _⟩ := (hS x).1 hx
  omega

theorem Qs.few {w : World} {q : Nat} {U : Nat → Prop} {n : Nat} {S : It → Prop} (h : Qs w q U n S) : n ≤ 1000 := by
  obtain ⟨⟨p, hb, f, hp, hh, hS⟩, _⟩ := h
  exact hp.few

theorem Qs.congr {w : World} {q : Nat} {U : Nat → Prop} {n : Nat} {S S' : It → Prop} (h : Qs w q U n S) (e : ∀ x, S x ↔ S' x) : Qs w q U n S' := by
  obtain ⟨⟨p, hb, f, hp, hh, hS⟩, hqu⟩ := h
  exact ⟨⟨p, hb, f, hp, hh, fun x => (e x).symm.trans (hS x)⟩, hqu⟩

/-- New. -/
theorem new_any (w : World) :
    Calls Try.prog 8 #[] w fun e w' => e = .returned (.pointer (some ⟨w.heap.size + 2, 0, none⟩)) ∧ Qs w' (w.heap.size + 2) (fun b => w.heap.size ≤ b ∧ b < w.heap.size + 2) 0 (fun _ => False) ∧ Below w.heap.size w w' := by
  have HE : Hid (Qs (((w.alloc (.map #[] 0)).alloc (.cells #[.slice none 0 0, .map (some w.heap.size)] 51)).alloc (.cells #[.pointer (some ⟨w.heap.size + 1, 0, none⟩)] 46)) (w.heap.size + 2) (fun b => w.heap.size ≤ b ∧ b < w.heap.size + 2) 0 (fun _ => False)) := Lib.hid (by
    refine ⟨⟨w.heap.size + 1, ?_, fun _ => (0, 0), ⟨w.heap.size, .slice none 0 0, .map [], ?_, ?_, ?_, ⟨rfl, fun a => ?_, fun k hk => by omega⟩, by omega, fun g hg => (by cases hg), ⟨by omega, by omega⟩, ⟨by omega, by omega⟩, fun b hb => ?_, fun k hk => by omega, by omega, by omega⟩, fun c _ hc => by omega, fun x => ?_⟩, fun h => by omega⟩
    · have := Blk.new ((w.alloc (.map #[] 0)).alloc (.cells #[.slice none 0 0, .map (some w.heap.size)] 51)) 46 #[.pointer (some ⟨w.heap.size + 1, 0, none⟩)]
      simpa using this
    · have := (Blk.new (w.alloc (.map #[] 0)) 51 #[.slice none 0 0, .map (some w.heap.size)]).alloc (.cells #[.pointer (some ⟨w.heap.size + 1, 0, none⟩)] 46)
      simpa using this
    · exact World.ownsRow_nil _ _ _ _
    · exact ((World.ownsMap_made w Try.prog 3 (plainElem Try.prog 3)).alloc _).alloc _
    · constructor
      · intro h; cases h
      · rintro ⟨k, hk, _⟩; omega
    · have := hb.2; simp; omega
    · constructor
      · exact False.elim
      · rintro ⟨k, hk, _⟩; omega)
  have hmm := @run_makeMap Try.prog
  go_enter Try.func8, Try.ntmps8
  go_wp2_with fail
  go_ret
  exact ⟨rfl, HE.out, (((Below.refl _ _).alloc (Nat.le_refl _) _).alloc (by simp) _).alloc (by simp; omega) _⟩

theorem nobody_of (w : World) (q p : Nat) (h : Blk w q 46 #[.pointer (some ⟨p, 0, none⟩)]) :
    Calls Try.prog 18 #[.pointer (some ⟨q, 0, none⟩)] w fun e w' => e = .returned (.bool false) ∧ w = w' := by
  have c0 : w.cell? ⟨q, 0, none⟩ = some (.pointer (some ⟨p, 0, none⟩)) := by rw [h.cell]; rfl
  clear h
  go_enter Try.func18, Try.ntmps18
  go_wp2_with fail
  go_ret
  exact ⟨rfl, rfl⟩

theorem zero3 (w : World) : (zeroValue 3).run Try.prog w = .ok (.int .i64 0) w := by kernel_rfl

/-- What a look into the pile's map gives. -/
theorem look_eq (w : World) (m n : Nat) (D : DataW Unit) (f : Nat → It) (h : w.ownsMap Try.prog 3 (plainElem Try.prog 3) m n D) (hi : MapIs D n f) (a : Int) (ha : In64 a) :
    (∃ k, k < n ∧ (f k).1 = a ∧ (Instr.lookup 48 (.map (some m)) (.int .i64 a) true).run Try.prog w = .ok (.tuple #[.int .i64 k, .bool true]) w) ∨
    ((∀ k, k < n → (f k).1 ≠ a) ∧ (Instr.lookup 48 (.map (some m)) (.int .i64 a) true).run Try.prog w = .ok (.tuple #[.int .i64 0, .bool false]) w) := by
  obtain ⟨v, ps, hrun, hv⟩ := h.look_ok law Try.underlying48 (zero3 w) (plainElem_int Try.underlying3 (by decide)) (keyOf_int_mk Try.underlying3 (wf64 ha))
  obtain ⟨c, rfl, hc, _⟩ := plainElem_int_inv Try.underlying3 hv
  have hc1 := congrArg Prod.fst hc
  cases hh : Maps.has D (kid a) with
  | true =>
    left
    obtain ⟨k, hk, rfl⟩ := (hi.has a).1 hh
    refine ⟨k, hk, rfl, ?_⟩
    have h1 := hi.at_ k hk
    have h2 : (kn k : DataW Unit) = .lit (.int .i64 c) := h1.symm.trans hc1
    injection h2 with h2
    injection h2 with _ h2
    rw [hrun, hh, h2]
  | false =>
    right
    refine ⟨fun k hk e => ?_, ?_⟩
    · have := (hi.has a).2 ⟨k, hk, e⟩
      rw [hh] at this
      cases this
    · have h2 : (DataW.lit (.int .i64 0) : DataW Unit) = .lit (.int .i64 c) := (atKey_of_not_has hh _).symm.trans hc1
      injection h2 with h2
      injection h2 with _ h2
      rw [hrun, hh, h2]

theorem find_yes (w : World) (q p m : Nat) (v : Value) (k : Nat) (a : Int) (hq : Blk w q 46 #[.pointer (some ⟨p, 0, none⟩)]) (hp : Blk w p 51 #[v, .map (some m)])
    (hrun : (Instr.lookup 48 (.map (some m)) (.int .i64 a) true).run Try.prog w = .ok (.tuple #[.int .i64 k, .bool true]) w) :
    Calls Try.prog 17 #[.pointer (some ⟨q, 0, none⟩), .int .i64 a] w fun e w' => e = .returned (.tuple #[.int .i64 k, .bool true]) ∧ w = w' := by
  have HN := Lib.hid (nobody_of w q p hq)
  have c0 : w.cell? ⟨q, 0, none⟩ = some (.pointer (some ⟨p, 0, none⟩)) := by rw [hq.cell]; rfl
  have c1 : w.cell? ⟨p, 1, none⟩ = some (.map (some m)) := by rw [hp.cell]; rfl
  clear hq hp
  go_enter Try.func17, Try.ntmps17
  go_wp2_with fail
  refine HN.out.mono ?_
  rintro e w' ⟨rfl, rfl⟩
  go_wp2_with fail
  go_ret2
  exact ⟨rfl, rfl⟩

theorem find_no (w : World) (q p m : Nat) (v : Value) (a : Int) (hq : Blk w q 46 #[.pointer (some ⟨p, 0, none⟩)]) (hp : Blk w p 51 #[v, .map (some m)])
    (hrun : (Instr.lookup 48 (.map (some m)) (.int .i64 a) true).run Try.prog w = .ok (.tuple #[.int .i64 0, .bool false]) w) :
    Calls Try.prog 17 #[.pointer (some ⟨q, 0, none⟩), .int .i64 a] w fun e w' => e = .returned (.tuple #[.int .i64 0, .bool false]) ∧ w = w' := by
  have HN := Lib.hid (nobody_of w q p hq)
  have c0 : w.cell? ⟨q, 0, none⟩ = some (.pointer (some ⟨p, 0, none⟩)) := by rw [hq.cell]; rfl
  have c1 : w.cell? ⟨p, 1, none⟩ = some (.map (some m)) := by rw [hp.cell]; rfl
  clear hq hp
  go_enter Try.func17, Try.ntmps17
  go_wp2_with fail
  refine HN.out.mono ?_
  rintro e w' ⟨rfl, rfl⟩
  go_wp2_with fail
  go_ret2
  exact ⟨rfl, rfl⟩

/-- Len. -/
theorem qlen_any (w : World) (q : Nat) (U : Nat → Prop) (n : Nat) (S : It → Prop) (h : Qs w q U n S) :
    Calls Try.prog 16 #[.pointer (some ⟨q, 0, none⟩)] w fun e w' => e = .returned (.int .i64 n) ∧ w = w' := by
  obtain ⟨⟨p, hb, f, hp, hh, hS⟩, hqu⟩ := h
  have HN := Lib.hid (nobody_of w q p hb)
  have HL := Lib.hid (len_any w p U n n f hp)
  have c0 : w.cell? ⟨q, 0, none⟩ = some (.pointer (some ⟨p, 0, none⟩)) := by rw [hb.cell]; rfl
  clear hb hp hh hS hqu
  go_enter Try.func16, Try.ntmps16
  go_wp2_with fail
  refine HN.out.mono ?_
  rintro e w' ⟨rfl, rfl⟩
  go_wp2_with fail
  refine HL.out.mono ?_
  rintro e w' ⟨rfl, rfl⟩
  go_wp2_with fail
  go_ret
  exact ⟨rfl, rfl⟩

/-- Key. -/
theorem key_yes (w : World) (q : Nat) (U : Nat → Prop) (n : Nat) (S : It → Prop) (h : Qs w q U n S) (x : It) (hx : S x) :
    Calls Try.prog 10 #[.pointer (some ⟨q, 0, none⟩), .int .i64 x.1] w fun e w' => e = .returned (.tuple #[.int .i64 x.2, .bool true]) ∧ w = w' := by
  have hin := h.inn hx
  obtain ⟨⟨p, hb, f, ⟨m, v, D, hp⟩, hh, hS⟩, hqu⟩ := h
  obtain ⟨i, hi, rfl⟩ := (hS x).1 hx
  rcases look_eq w m n D f hp.map hp.is (f i).1 hin.1 with ⟨k, hk, e, hrun⟩ | ⟨hno, _⟩
  · obtain rfl := hp.is.inj hk hi e
    obtain ⟨g, c, rfl⟩ := hp.there (by omega)
    have HF := Lib.hid (find_yes w q p m _ k _ hb hp.blk hrun)
    have c0 : w.cell? ⟨q, 0, none⟩ = some (.pointer (some ⟨p, 0, none⟩)) := by rw [hb.cell]; rfl
    have c1 : w.cell? ⟨p, 0, none⟩ = some (.slice (some ⟨g, 0, none⟩) n c) := by rw [hp.blk.cell]; rfl
    have r1 : w.cell? ⟨g, k * 2 + 1, none⟩ = some (.int .i64 (f k).2) := by rw [hp.row.cellAt _ (by omega), flat_key n f k hi]
    have few := hp.few
    have hk0 : (0 : Int) ≤ (k : Int) := by omega
    have hk1 : (k : Int) < (n : Int) := by omega
    generalize (f k).1 = a at *
    generalize (f k).2 = b at *
    clear hb hp hh hS hqu hrun e hx hin
    go_enter Try.func10, Try.ntmps10
    go_wp2_with fail
    refine HF.out.mono ?_
    rintro e w' ⟨rfl, rfl⟩
    go_wp2_with fail
    go_ret2
    exact ⟨rfl, rfl⟩
  · exact absurd rfl (hno i hi)

theorem key_no (w : World) (q : Nat) (U : Nat → Prop) (n : Nat) (S : It → Prop) (h : Qs w q U n S) (a : Int) (ha : In64 a) (hx : ∀ y, S y → y.1 ≠ a) :
    Calls Try.prog 10 #[.pointer (some ⟨q, 0, none⟩), .int .i64 a] w fun e w' => e = .returned (.tuple #[.int .i64 0, .bool false]) ∧ w = w' := by
  obtain ⟨⟨p, hb, f, ⟨m, v, D, hp⟩, hh, hS⟩, hqu⟩ := h
  rcases look_eq w m n D f hp.map hp.is a ha with ⟨k, hk, e, hrun⟩ | ⟨_, hrun⟩
  · exact absurd e (hx (f k) ((hS _).2 ⟨k, hk, rfl⟩))
  · have HF := Lib.hid (find_no w q p m v a hb hp.blk hrun)
    clear hb hp hh hS hqu hrun hx ha
    go_enter Try.func10, Try.ntmps10
    go_wp2_with fail
    refine HF.out.mono ?_
    rintro e w' ⟨rfl, rfl⟩
    go_wp2_with fail
    go_ret2
    exact ⟨rfl, rfl⟩
end Go.Proofs.Ytajlbiohaafpnaa.Qu
