/-
  WALKS of layer 6: the queue's Put, Take, Drop.
-/
import Derived.Test.YtajlbiohaafpnaaQr
namespace Go.Proofs.Ytajlbiohaafpnaa.Qu
open Go.RowKit Go.Maps
open Mem Hp

theorem Tn.drew {U : Nat → Prop} {a b : World} (h : Tn U a b) : Tn U a b.drew := ⟨h.os, h.tape, h.output, h.size, h.block⟩
theorem Tn.blk {U : Nat → Prop} {a b : World} {g : Nat} {t : TypeId} {cs : Array Value} (h : Tn U a b) (hb : Blk a g t cs) (hu : ¬ U g) : Blk b g t cs := (h.block g hb.lt hu).trans hb
theorem HeapAt.below {w w' : World} {p : Nat} {U : Nat → Prop} {n : Nat} {S : It → Prop} (h : HeapAt w p U n S) (hb : Below w.heap.size w w') : HeapAt w' p U n S := by
  obtain ⟨f, hp, r⟩ := h
  exact ⟨f, hp.below hb, r⟩

def PutPost (w : World) (q : Nat) (U : Nat → Prop) (n : Nat) (S : It → Prop) (x : It) (e : Ending) (w' : World) : Prop :=
  e = .returned (.bool true) ∧ Qs w' q (Gr U w w') (n + 1) (fun y => S y ∨ y = x) ∧ Tn U w w'

set_option maxHeartbeats 1000000 in
theorem put_yes (w : World) (q : Nat) (U : Nat → Prop) (n : Nat) (S : It → Prop) (h : Qs w q U n S) (x : It) (hx : In64 x.1 ∧ In64 x.2) (hn : n < 1000) (hnew : ∀ y, S y → y.1 ≠ x.1) :
    Calls Try.prog 11 #[.pointer (some ⟨q, 0, none⟩), .int .i64 x.1, .int .i64 x.2] w (PutPost w q U n S x) := by
  have HQ := Lib.hid h
  obtain ⟨⟨p, hb, hH⟩, hqu⟩ := h
  have HH := Lib.hid hH
  obtain ⟨f, ⟨m, v, D, hp⟩, hh, hS⟩ := hH
  have HN := Lib.hid (nobody_of w q p hb)
  have HB := Lib.hid hb
  have HF : Hid (Calls Try.prog 17 #[.pointer (some ⟨q, 0, none⟩), .int .i64 x.1] w fun e w' => e = .returned (.tuple #[.int .i64 0, .bool false]) ∧ w = w') := Lib.hid (by
    rcases look_eq w m n D f hp.map hp.is x.1 hx.1 with ⟨k, hk, e, hrun⟩ | ⟨_, hrun⟩
    · exact absurd e (hnew (f k) ((hS _).2 ⟨k, hk, rfl⟩))
    · exact find_no w q p m v x.1 hb hp.blk hrun)
  have HP := Lib.hid (hpush_any w p U n S HH.out x hx hn hnew)
  have c0 : w.cell? ⟨q, 0, none⟩ = some (.pointer (some ⟨p, 0, none⟩)) := by rw [hb.cell]; rfl
  clear hb hp hh hS hx hnew
  go_enter Try.func11, Try.ntmps11
  go_wp2_with fail
  refine HN.out.mono ?_
  rintro e w' ⟨rfl, rfl⟩
  go_wp2_with fail
  refine HF.out.mono ?_
  rintro e w' ⟨rfl, rfl⟩
  go_wp2_with fail
  refine HP.out.mono ?_
  rintro e w1 ⟨rfl, hh1, ht1⟩
  have HE : Hid (Qs w1 q (Gr U w w1) (n + 1) (fun y => S y ∨ y = x) ∧ Tn U w w1) := Lib.hid ⟨⟨⟨p, ht1.blk HB.out hqu, hh1⟩, fun hg => by
    rcases hg with hg | hg
    · exact hqu hg
    · have := HB.out.lt; omega⟩, ht1⟩
  clear hh1 ht1
  go_wp2_with fail
  go_ret
  exact ⟨rfl, HE.out⟩

theorem put_no (w : World) (q : Nat) (U : Nat → Prop) (n : Nat) (S : It → Prop) (h : Qs w q U n S) (a b : Int) (x : It) (hx : S x) (e : x.1 = a) :
    Calls Try.prog 11 #[.pointer (some ⟨q, 0, none⟩), .int .i64 a, .int .i64 b] w fun e w' => e = .returned (.bool false) ∧ w = w' := by
  subst e
  have hin := h.inn hx
  obtain ⟨⟨p, hb, f, ⟨m, v, D, hp⟩, hh, hS⟩, hqu⟩ := h
  have HN := Lib.hid (nobody_of w q p hb)
  obtain ⟨i, hi, rfl⟩ := (hS x).1 hx
  rcases look_eq w m n D f hp.map hp.is (f i).1 hin.1 with ⟨k, hk, e, hrun⟩ | ⟨hno, _⟩
  · have HF := Lib.hid (find_yes w q p m _ k _ hb hp.blk hrun)
    have few := hp.few
    clear hb hp hh hS hqu hrun e hx hin
    go_enter Try.func11, Try.ntmps11
    go_wp2_with fail
    refine HN.out.mono ?_
    rintro e w' ⟨rfl, rfl⟩
    go_wp2_with fail
    refine HF.out.mono ?_
    rintro e w' ⟨rfl, rfl⟩
    go_wp2_with fail
    go_ret
    exact ⟨rfl, rfl⟩
  · exact absurd rfl (hno i hi)

theorem take_no (w : World) (q : Nat) (U : Nat → Prop) (S : It → Prop) (h : Qs w q U 0 S) :
    Calls Try.prog 13 #[.pointer (some ⟨q, 0, none⟩)] w fun e w' => e = .returned (.tuple #[.int .i64 0, .int .i64 0, .bool false]) ∧ w = w' := by
  have HL := Lib.hid (qlen_any w q U 0 S h)
  clear h
  go_enter Try.func13, Try.ntmps13
  go_wp2_with fail
  refine HL.out.mono ?_
  rintro e w' ⟨rfl, rfl⟩
  go_wp2_with fail
  go_ret3
  exact ⟨rfl, rfl⟩

/-- What Take leaves. -/
def TakePost (w : World) (q : Nat) (U : Nat → Prop) (n : Nat) (S : It → Prop) (e : Ending) (w' : World) : Prop :=
  ∃ x : It, e = .returned (.tuple #[.int .i64 x.1, .int .i64 x.2, .bool true]) ∧ S x ∧ (∀ y, S y → le x y) ∧ Qs w' q U n (fun y => S y ∧ y ≠ x) ∧ Tn U w w'

/-- Behind forget. -/
theorem forgot {w w1 w2 : World} {q p : Nat} {U : Nat → Prop} {n : Nat} {S : It → Prop} {f : Nat → It} (hb : Blk w q 46 #[.pointer (some ⟨p, 0, none⟩)]) (hqu : ¬ U q) (hp1 : Pile w1 p U n (n + 1) f)
    (hh : Heap n f) (hS : ∀ y, S y ↔ ∃ k, k < n + 1 ∧ f k = y) (hp : Pile w2 p U n n f) (ht : Tn U w w2) : Qs w2 q U n (fun y => S y ∧ y ≠ f n) := by
  refine ⟨⟨p, ht.blk hb hqu, f, hp, hh, fun y => ?_⟩, hqu⟩
  show (S y ∧ y ≠ f n) ↔ _
  rw [hS]
  constructor
  · rintro ⟨⟨k, hk, rfl⟩, hne⟩
    exact ⟨k, by rcases Nat.lt_or_ge k n with h | h; exact h; exact absurd (by rw [show k = n by omega]) hne, rfl⟩
  · rintro ⟨k, hk, rfl⟩
    refine ⟨⟨k, by omega, rfl⟩, fun e => ?_⟩
    have := hp1.inj (i := k) (j := n) (by omega) (by omega) (by rw [e])
    omega

/-- The call's own variable is written. -/
theorem late {w w2 : World} {q V : Nat} {U : Nat → Prop} {n : Nat} {S : It → Prop} (h : Qs w2 q U n S) (ht : Tn U w w2) (hV : w.heap.size ≤ V) (hu : ¬ U V) (hq : q < w.heap.size) (a b : Value) :
    Qs ((w2.setCell ⟨V, 0, none⟩ a).setCell ⟨V, 1, none⟩ b) q U n S ∧ Tn U w ((w2.setCell ⟨V, 0, none⟩ a).setCell ⟨V, 1, none⟩ b) :=
  ⟨h.kept (V := fun x => x = V) (((Tn.refl (fun x => x = V) w2).setCell (p := ⟨V, 0, none⟩) (.inl rfl) a).setCell (p := ⟨V, 1, none⟩) (.inl rfl) b) (fun _ hx e => hu (e ▸ hx)) (by omega),
   (ht.setCell (p := ⟨V, 0, none⟩) (.inr hV) a).setCell (p := ⟨V, 1, none⟩) (.inr hV) b⟩

/-- A variable of the call's own, as the walk wants to know it. -/
theorem var_facts {w : World} {V : Nat} {t : TypeId} (h : Blk w V t #[.int .i64 0, .int .i64 0]) (a b : Value) :
    w.cell? ⟨V, 0, none⟩ = some (.int .i64 0) ∧ w.cell? ⟨V, 1, none⟩ = some (.int .i64 0) ∧ w.frozen? ⟨V, 0, none⟩ = false ∧ w.frozen? ⟨V, 1, none⟩ = false ∧
    (w.setCell ⟨V, 0, none⟩ a).cell? ⟨V, 0, none⟩ = some a ∧ ((w.setCell ⟨V, 0, none⟩ a).setCell ⟨V, 1, none⟩ b).cell? ⟨V, 1, none⟩ = some b := by
  refine ⟨by rw [h.cell]; rfl, by rw [h.cell]; rfl, h.frozen 0, h.frozen 1, ?_, ?_⟩
  · have := Blk.cell (h.stored 0 a) 0
    simpa using this
  · have := Blk.cell ((h.stored 0 a).stored 1 b) 1
    simpa using this

set_option maxHeartbeats 4000000 in
set_option maxRecDepth 100000 in
theorem take_yes (w : World) (q : Nat) (U : Nat → Prop) (n : Nat) (S : It → Prop) (h : Qs w q U (n + 1) S) :
    Calls Try.prog 13 #[.pointer (some ⟨q, 0, none⟩)] w (TakePost w q U n S) := by
  have HL := Lib.hid (qlen_any w q U (n + 1) S h)
  obtain ⟨⟨p, hb, hH⟩, hqu⟩ := h
  have HH := Lib.hid hH
  have HB := Lib.hid hb
  have HLT : Hid (∀ b, U b → b < w.heap.size) := Lib.hid (by obtain ⟨f, hp, _⟩ := hH; exact hp.lt)
  have c0 : w.cell? ⟨q, 0, none⟩ = some (.pointer (some ⟨p, 0, none⟩)) := by rw [hb.cell]; rfl
  have hn0 : (((n + 1 : Nat) : Int) == 0) = false := by simp; omega
  have hqlt := hb.lt
  have nw := World.new_ne w _ c0
  have NU : Hid (¬ U w.heap.size) := Lib.hid (fun hu => by have := HLT.out _ hu; omega)
  clear hb hH
  go_enter Try.func13, Try.ntmps13
  go_wp2_with fail
  refine HL.out.mono ?_
  rintro e w' ⟨rfl, rfl⟩
  go_wp2_with fail
  go_region_held3 (fun w' => w'.cell? ⟨q, 0, none⟩ = some (.pointer (some ⟨p, 0, none⟩))) (first | go_keep | assumption)
    (first
    | (go_at_call 21; refine (hpop_any _ p U n S (HH.out.below (by first | exact (Below.refl _ _).drew | exact (Below.refl _ _).drew.alloc (Nat.le_refl _) _))).mono ?_; rintro e w1 ⟨x, rfl, ⟨hSx, hle⟩, ⟨f, hp1, hh1, hfx, hS1⟩, ht1⟩; subst hfx; have d0 : w1.cell? ⟨q, 0, none⟩ = some (.pointer (some ⟨p, 0, none⟩)) := (World.cell?_of_block (ht1.block q (by first | exact hqlt | (simp; omega)) hqu)).trans (by first | exact c0 | go_keep); have nw1 := World.new_ne w1 _ d0; have NU1 : Hid (¬ U w1.heap.size) := Lib.hid (fun hu => by have := hp1.lt _ hu; omega))
    | (go_at_call 20; refine (forget_any _ p U n f (hp1.below (by first | exact (Below.refl _ _) | exact (Below.refl _ _).alloc (Nat.le_refl _) _))).mono ?_; rintro e w2 ⟨rfl, hp2, ht2⟩; have hq1 : q < w1.heap.size := World.block_lt_of_cell? w1 _ d0; have d1 : w2.cell? ⟨q, 0, none⟩ = some (.pointer (some ⟨p, 0, none⟩)) := (World.cell?_of_block (ht2.block q (by first | exact hq1 | (simp; omega)) hqu)).trans (by first | exact d0 | go_keep); have nw2 := World.new_ne w2 _ d1;
        first
        | (have bl : Blk w2 w.heap.size 53 #[.int .i64 0, .int .i64 0] := ht2.blk (ht1.blk (Blk.new w.drew 53 #[.int .i64 0, .int .i64 0]) NU.out) NU.out; obtain ⟨k0, k1, k2, k3, k4, k5⟩ := var_facts bl (.int .i64 (f n).1) (.int .i64 (f n).2); have HT2 := Lib.hid ((((Tn.refl U w).drew.alloc _).andThen ht1).andThen ht2); have HE := Lib.hid (late (forgot HB.out hqu hp1 hh1 hS1 hp2 HT2.out) HT2.out (V := w.heap.size) (Nat.le_refl _) NU.out hqlt (.int .i64 (f n).1) (.int .i64 (f n).2)); clear bl)
        | (have bl : Blk w2 w1.heap.size 53 #[.int .i64 0, .int .i64 0] := ht2.blk (Blk.new w1 53 #[.int .i64 0, .int .i64 0]) NU1.out; obtain ⟨k0, k1, k2, k3, k4, k5⟩ := var_facts bl (.int .i64 (f n).1) (.int .i64 (f n).2); have HT2 := Lib.hid ((((Tn.refl U w).drew.andThen ht1).alloc _).andThen ht2); have HE := Lib.hid (late (forgot HB.out hqu hp1 hh1 hS1 hp2 HT2.out) HT2.out (V := w1.heap.size) ht1.size NU1.out hqlt (.int .i64 (f n).1) (.int .i64 (f n).2)); clear bl)
        | (have HT2 := Lib.hid (((Tn.refl U w).drew.andThen ht1).andThen ht2); have HE := Lib.hid (And.intro ((forgot HB.out hqu hp1 hh1 hS1 hp2 HT2.out).below ((Below.refl _ _).alloc (Nat.le_refl _) (.cells #[.int .i64 (f n).1, .int .i64 (f n).2] 53))) (HT2.out.alloc (.cells #[.int .i64 (f n).1, .int .i64 (f n).2] 53))))))
  all_goals
    have HSx := Lib.hid (And.intro hSx hle)
    clear hSx hle hp1 hh1 hS1 ht1 hp2 ht2 d0 d1 c0 nw nw1 nw2
    go_wp2_with fail
    go_quiet (fail)
    go_wp2_with fail
    go_ret3
    exact ⟨f n, rfl, HSx.out.1, HSx.out.2, HE.out.1.below (below_drewN (Below.refl _ _) _), HE.out.2.drewN _⟩
end Go.Proofs.Ytajlbiohaafpnaa.Qu
