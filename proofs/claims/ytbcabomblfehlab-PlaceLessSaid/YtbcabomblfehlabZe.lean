/-
  WORDS FOR MEMORY, of no program: a slice value that reads as a list; a block that is known whole; only one block has turned. A LAW OF THE WALK, of no program: a slice that reads as a list, nil or not, is appended to a row of the call's own. A LAW OF THE WALK, of no program: a slice that reads as a list, nil or not, is appended to a row of the call's own, inside of what may be called back.
-/
import Derived.Below
import Derived.Laws.OwnMore
import Derived.Laws.Rows
import Derived.Deep.Draws
import Derived.OwnWalk
import Derived.Laws.AppendOwn
import Derived.Laws.AppendOwnNone
import Derived.Maps.OwnIn
namespace Go.Proofs.Ytbcabomblfehlab.Mem
open Go.RowKit

/-- The cells from 'ad' on hold vs, in a block below B. -/
def Row (w : World) (B : Nat) (ad : Addr) (vs : List Value) : Prop :=
  ∀ j u, vs[j]? = some u → ad.block < B ∧ w.cell? (ad.add j) = some u

/-- A slice value, nil or not, of one-cell elements: it reads as vs, and lies below B. -/
inductive SlV (w : World) (B : Nat) : Value → List Value → Prop
  | nil : SlV w B (.slice none 0 0) []
  | at_ (ad : Addr) (cap : Nat) (vs : List Value) (hc : vs.length ≤ cap) (hm : cap ≤ maxLen) (h : Row w B ad vs) : SlV w B (.slice (some ad) vs.length cap) vs

theorem add_block (a : Addr) (n : Nat) : (a.add n).block = a.block := by
  unfold Addr.add; split <;> rfl

theorem add_plain (b o n : Nat) : (⟨b, o, none⟩ : Addr).add n = ⟨b, o + n, none⟩ := by
  unfold Addr.add; split <;> simp_all

theorem add_twice (a : Addr) (i j : Nat) : (a.add i).add j = a.add (i + j) := by
  unfold Addr.add
  by_cases hi : i = 0 <;> by_cases hj : j = 0 <;> simp [hi, hj, Nat.add_assoc]

section
variable {w w' : World} {B B' : Nat} {ad : Addr} {vs : List Value} {v : Value}

theorem Row.keep (h : Row w B ad vs) (hk : ∀ p : Addr, p.block < B → w'.cell? p = w.cell? p) : Row w' B ad vs := fun j u hu =>
  ⟨(h j u hu).1, (hk _ (by rw [add_block]; exact (h j u hu).1)).trans (h j u hu).2⟩

theorem Row.more (h : Row w B ad vs) (hB : B ≤ B') : Row w B' ad vs := fun j u hu => ⟨Nat.lt_of_lt_of_le (h j u hu).1 hB, (h j u hu).2⟩

theorem Row.below (h : Row w B ad vs) (hb : Below B w w') : Row w' B ad vs := h.keep fun _ hp => hb.cell hp

theorem Row.only (h : Row w B ad vs) {g : Nat} (hg : w.grownBy w' (some g)) (hB : B ≤ w.heap.size) (hgB : B ≤ g) : Row w' B ad vs :=
  h.keep fun p hp => World.cell?_of_block (hg.block p.block (by omega) (fun e => by injection e; omega))

theorem Row.at_ (h : Row w B ad vs) {j : Nat} (hj : j < vs.length) : w.cell? (ad.add j) = some vs[j] := (h j _ (List.getElem?_eq_getElem hj)).2

theorem Row.drop (h : Row w B ad vs) (k : Nat) : Row w B (ad.add k) (vs.drop k) := fun j u hu => by
  rw [List.getElem?_drop] at hu
  rw [add_block, add_twice]
  exact h _ u hu

theorem Row.take (h : Row w B ad vs) (k : Nat) : Row w B ad (vs.take k) := fun j u hu => by
  rw [List.getElem?_take] at hu
  split at hu
  · exact h _ u hu
  · cases hu

theorem Row.here (h : ∀ j u, vs[j]? = some u → w.cell? (ad.add j) = some u) : Row w w.heap.size ad vs := fun j u hu =>
  ⟨by have := World.block_lt_of_cell? w _ (h j u hu); rwa [add_block] at this, h j u hu⟩

theorem SlV.inv {A : Option Addr} {n c : Nat} (h : SlV w B (.slice A n c) vs) :
    (A = none ∧ n = 0 ∧ c = 0 ∧ vs = []) ∨ ∃ ad, A = some ad ∧ n = vs.length ∧ n ≤ c ∧ c ≤ maxLen ∧ Row w B ad vs := by
  generalize hv : Value.slice A n c = v at h
  cases h with
  | nil => injection hv with e1 e2 e3; exact .inl ⟨e1, e2, e3, rfl⟩
  | at_ ad cap _ hc hm h => injection hv with e1 e2 e3; subst e2 e3; exact .inr ⟨ad, e1, rfl, hc, hm, h⟩

theorem SlV.form (h : SlV w B v vs) : ∃ A c, v = .slice A vs.length c := by
  cases h with
  | nil => exact ⟨none, 0, rfl⟩
  | at_ ad cap _ _ _ _ => exact ⟨_, _, rfl⟩

theorem SlV.keep (h : SlV w B v vs) (hk : ∀ p : Addr, p.block < B → w'.cell? p = w.cell? p) : SlV w' B v vs := by
  cases h with
  | nil => exact .nil
  | at_ ad cap _ hc hm h => exact .at_ ad cap _ hc hm (h.keep hk)

theorem SlV.more (h : SlV w B v vs) (hB : B ≤ B') : SlV w B' v vs := by
  cases h with
  | nil => exact .nil
  | at_ ad cap _ hc hm h => exact .at_ ad cap _ hc hm (h.more hB)

theorem SlV.below (h : SlV w B v vs) (hb : Below B w w') : SlV w' B v vs := h.keep fun _ hp => hb.cell hp

theorem SlV.only (h : SlV w B v vs) {g : Nat} (hg : w.grownBy w' (some g)) (hB : B ≤ w.heap.size) (hgB : B ≤ g) : SlV w' B v vs :=
  h.keep fun p hp => World.cell?_of_block (hg.block p.block (by omega) (fun e => by injection e; omega))

theorem SlV.of_own {base : Nat} {e : TypeId} {n : Nat} (h : w.ownsRow base e 1 v n vs) : SlV w w.heap.size v vs := by
  have hl : vs.length = n := by simpa using h.1
  rcases h.2 with ⟨rfl, h0⟩ | ⟨g, cap, cur, rfl, _, hh, hc, hm, hs, ht⟩
  · have : vs = [] := List.eq_nil_of_length_eq_zero (by omega)
    subst this
    exact .nil
  · subst hl
    exact .at_ _ cap vs hc hm (Row.here (h.cells (g := g) rfl))

/-- Block g is just these cells, none of them frozen. -/
def Blk (w : World) (g : Nat) (t : TypeId) (cs : Array Value) : Prop := w.heap[g]? = some (.cells cs t (0, 0))

theorem Blk.lt {g : Nat} {t : TypeId} {cs : Array Value} (h : Blk w g t cs) : g < w.heap.size := by
  rcases Nat.lt_or_ge g w.heap.size with hlt | hge
  · exact hlt
  · unfold Blk at h; rw [Array.getElem?_eq_none hge] at h; cases h

theorem Blk.cell {g : Nat} {t : TypeId} {cs : Array Value} (h : Blk w g t cs) (i : Nat) : w.cell? ⟨g, i, none⟩ = cs[i]? := cell_of_row w g i cs t (0, 0) h

theorem Blk.frozen {g : Nat} {t : TypeId} {cs : Array Value} (h : Blk w g t cs) (i : Nat) : w.frozen? ⟨g, i, none⟩ = false := by
  unfold Blk at h
  simp [World.frozen?, h]

theorem Blk.new (w : World) (t : TypeId) (cs : Array Value) : Blk (w.alloc (.cells cs t)) w.heap.size t cs := heap_alloc_new w _

theorem Blk.alloc {g : Nat} {t : TypeId} {cs : Array Value} (h : Blk w g t cs) (o : Obj) : Blk (w.alloc o) g t cs := (Below.heap_alloc w o g h.lt).trans h

theorem Blk.drewN {g : Nat} {t : TypeId} {cs : Array Value} (h : Blk w g t cs) (n : Nat) : Blk (w.drewN n) g t cs := h

theorem Blk.stored {g : Nat} {t : TypeId} {cs : Array Value} (h : Blk w g t cs) (i : Nat) (u : Value) : Blk (w.setCell ⟨g, i, none⟩ u) g t (cs.setIfInBounds i u) := by
  unfold Blk at h ⊢
  simp [World.setCell, Array.getElem?_modify, h]

theorem Blk.below {g : Nat} {t : TypeId} {cs : Array Value} (h : Blk w g t cs) (hb : Below B w w') (hg : g < B) : Blk w' g t cs := (hb.block g hg).trans h

theorem Blk.only {g g' : Nat} {t : TypeId} {cs : Array Value} (h : Blk w g t cs) (hb : w.grownBy w' (some g')) (hg : g ≠ g') : Blk w' g t cs :=
  (hb.block g h.lt (fun e => hg (by injection e))).trans h

/-- A new row, whole. -/
theorem SlV.new (w : World) (vs : List Value) (t : TypeId) (hm : vs.length ≤ maxLen) : SlV (w.alloc (.cells vs.toArray t)) (w.heap.size + 1) (.slice (some ⟨w.heap.size, 0, none⟩) vs.length vs.length) vs :=
  .at_ _ _ vs (Nat.le_refl _) hm (fun j u hu => by
    refine ⟨by simp, ?_⟩
    rw [add_plain, Nat.zero_add, (Blk.new w t vs.toArray).cell]
    simpa using hu)

theorem below_drewN {a : World} (h : Below B a w) (n : Nat) : Below B a (w.drewN n) := ⟨h.os, h.tape, h.output, h.size, h.block⟩

/-- Only block g has turned: the steps of a walk. -/
theorem only_refl (w : World) (g : Nat) : w.grownBy w (some g) := ⟨rfl, rfl, rfl, Nat.le_refl _, fun _ _ _ => rfl⟩

theorem only_drewN {a : World} {g : Nat} (h : a.grownBy w (some g)) (n : Nat) : a.grownBy (w.drewN n) (some g) := ⟨h.os, h.tape, h.output, h.size, h.block⟩

theorem only_set {a : World} {g : Nat} (h : a.grownBy w (some g)) (i : Nat) (u : Value) : a.grownBy (w.setCell ⟨g, i, none⟩ u) (some g) :=
  ⟨h.os, h.tape, h.output, by simpa [World.setCell] using h.size, fun k hk hne =>
    (Below.heap_setCell w ⟨g, i, none⟩ u k (fun e => hne (by rw [e]))).trans (h.block k hk hne)⟩

theorem only_alloc {a : World} {g : Nat} (h : a.grownBy w (some g)) (o : Obj) : a.grownBy (w.alloc o) (some g) :=
  ⟨h.os, h.tape, h.output, Nat.le_trans h.size (by simp), fun k hk hne => (Below.heap_alloc w o k (Nat.lt_of_lt_of_le hk h.size)).trans (h.block k hk hne)⟩

theorem only_trans {a b c : World} {g : Nat} (h : a.grownBy b (some g)) (k : b.grownBy c (some g)) : a.grownBy c (some g) :=
  ⟨k.os.trans h.os, k.tape.trans h.tape, k.output.trans h.output, Nat.le_trans h.size k.size, fun i hi hne => (k.block i (Nat.lt_of_lt_of_le hi h.size) hne).trans (h.block i hi hne)⟩

theorem only_of_below {a : World} (g : Nat) (h : Below a.heap.size a w) : a.grownBy w (some g) := ⟨h.os, h.tape, h.output, h.size, fun i hi _ => h.block i hi⟩

theorem below_of_only {a b c : World} {g : Nat} (h : Below B a b) (k : b.grownBy c (some g)) (hB : B ≤ b.heap.size) (hg : B ≤ g) : Below B a c :=
  h.grown k hB (fun _ e => by injection e; omega)

end
end Go.Proofs.Ytbcabomblfehlab.Mem

namespace Go.Proofs.Ytbcabomblfehlab.Mem
open Go.RowKit

theorem wpList_append_slv {P : Program} (w : World) {ops : Array Oper} {rest : List Oper} {o : Oper} {a : Act} {Q : Exit → Act → World → Prop} (hgd : o.guard = none) (s x : Operand) (t : TypeId)
    (ho : o.op = .call { callee := .builtin .append, args := #[s, x], argTypes := #[t, t] })
    (base : Nat) (e : TypeId) (i : TypeInfo) (z : Value) (bytes : Nat) (ht : P.underlying t = some (.slice e)) (hi : P.info? e = some i) (hz : i.zero = some z)
    (hsize : i.size = 1) (hby : i.bytes = bytes) (hzs : z.cells.size = 1)
    (v : Value) (xs : List Value) (hs : a.eval s = v) (hown : w.ownsRow base e 1 v xs.length xs)
    (B : Nat) (u : Value) (vs : List Value) (hx : a.eval x = u) (hr : SlV w B u vs) (h1 : ∀ y ∈ vs, y.oneCell' = true)
    (h63 : xs.length + vs.length ≤ maxLen) (hbytes : (xs.length + vs.length) * bytes ≤ 140737488355328) (hbase : base ≤ w.heap.size)
    (h : ∀ v' w', w'.ownsRow base e 1 v' (xs ++ vs).length (xs ++ vs) → w.grownBy w' v.ownBlock → wpList P ops Q rest (a.put o.dst v') w') : wpList P ops Q (o :: rest) a w := by
  cases hr with
  | nil =>
    refine wpList_append_own_none hgd s x t ho base e i 1 ht hi v xs.length xs hs hown hx ?_
    exact h v w (by rw [List.append_nil]; exact hown) ⟨rfl, rfl, rfl, Nat.le_refl _, fun _ _ _ => rfl⟩
  | at_ ad cap _ hc hm hrow =>
    refine wpList_append_own w hgd s x t ho base e i z 1 bytes ht hi hz hsize hby hzs (by decide) v xs.length xs hs hown ad vs.length cap vs hx (by omega) (fun j y hy => (hrow j y hy).2) h1 h63 hbytes hbase ?_
    intro v' w' h2 h3 _
    exact h v' w' (by rw [List.length_append]; exact h2) h3
end Go.Proofs.Ytbcabomblfehlab.Mem

namespace Go.Proofs.Ytbcabomblfehlab.Mem
open Go.RowKit

theorem wpListIn_append_slv {F : Fence} {nF : Nat} {P : Program} (w : World) {ops : Array Oper} {rest : List Oper} {o : Oper} {a : Act} {Q : Exit → Act → World → Prop} (hgd : o.guard = none) (s x : Operand) (t : TypeId)
    (ho : o.op = .call { callee := .builtin .append, args := #[s, x], argTypes := #[t, t] })
    (base : Nat) (e : TypeId) (i : TypeInfo) (z : Value) (bytes : Nat) (ht : P.underlying t = some (.slice e)) (hi : P.info? e = some i) (hz : i.zero = some z)
    (hsize : i.size = 1) (hby : i.bytes = bytes) (hzs : z.cells.size = 1)
    (v : Value) (n : Nat) (xs : List Value) (hs : a.eval s = v) (hown : w.ownsRow base e 1 v n xs)
    (B : Nat) (u : Value) (vs : List Value) (hx : a.eval x = u) (hr : SlV w B u vs) (h1 : ∀ y ∈ vs, y.oneCell' = true)
    (h63 : n + vs.length ≤ maxLen) (hbytes : (n + vs.length) * bytes ≤ 140737488355328) (hbase : base ≤ w.heap.size)
    (h : ∀ v' w', w'.ownsRow base e 1 v' (n + vs.length) (xs ++ vs) → w.grownBy w' v.ownBlock → (v'.ownBlock = v.ownBlock ∨ v'.ownBlock = some w.heap.size) → wpListIn F nF P ops Q rest (a.put o.dst v') w') : wpListIn F nF P ops Q (o :: rest) a w := by
  cases hr with
  | nil =>
    refine wpListIn_plain hgd fun K hK => ?_
    have hrun := run_append_owned_none (P := P) (w := w) base t o.type e i 1 ht hi v n xs hown
    unfold Oper.wpIn
    refine ⟨by simp [Oper.about, ho, resolve, Target.leads, Sem.run_pure], ?_⟩
    rw [Oper.semAt_plain F _ _ (by rw [ho]; intro c hc'; cases hc')]
    simp [execOp, ho, resolve, invoke, builtin, hs, hx, hrun, Result.andThen]
    exact hK _ _ (h v w (by rw [List.append_nil]; exact hown) ⟨rfl, rfl, rfl, Nat.le_refl _, fun _ _ _ => rfl⟩ (.inl rfl))
  | at_ ad cap _ hc hm hrow =>
    refine wpListIn_append_own_at w hgd s x t ho base e i z 1 bytes ht hi hz hsize hby hzs (by decide) v n xs hs hown ad vs.length cap vs hx (by omega) (fun j y hy => (hrow j y hy).2) h1 h63 hbytes hbase ?_
    intro v' w' h2 h3 _ h5
    exact h v' w' h2 h3 h5
end Go.Proofs.Ytbcabomblfehlab.Mem
