/-
  A LAW OF THE WALK, of no program: a slice that reads as a list, nil or not, is appended to a row of the call's own.
-/
import Derived.Test.YtnplhpbbdgnmiaaDoorMem
namespace Go.Proofs.YtnplhpbbdgnmiaaDoor.Mem
open Go.RowKit

theorem wpList_append_slv {P : Program} (w : World) {ops : Array Oper} {rest : List Oper} {o : Oper} {a : Act} {Q : Exit → Act → World → Prop} (hgd : o.guard = none) (s x : Operand) (t : TypeId)
    (ho : o.op = .call { callee := .builtin .append, args := #[s, x], argTypes := #[t, t] })
    (base : Nat) (e : TypeId) (i : TypeInfo) (z : Value) (bytes : Nat) (ht : P.underlying t = some (.slice e)) (hi : P.info? e = some i) (hz : i.zero = some z)
    (hsize : i.size = 1) (hby : i.bytes = bytes) (hzs : z.cells.size = 1)
    (v : Value) (xs : List Value) (hs : a.eval s = v) (hown : w.ownsRow base e 1 v xs.length xs)
    (B : Nat) (u : Value) (vs : List Value) (hx : a.eval x = u) (hr : SlV w B u vs) (h1 : ∀ y ∈ vs, y.oneCell' = true)
    (h63 : xs.length + vs.length ≤ maxLen) (hbytes : (xs.length + vs.length) * bytes ≤ 140737488355328) (hbase : base ≤ w.heap.size)
    (h : ∀ v' w', w'.ownsRow base e 1 v' (xs ++ vs).length (xs ++ vs) → w.grownBy w' v.ownBlock → wpList P ops Q rest (a.put o.dst v') w') : wpList P ops Q (o :: rest) a w := by
  cases hr with
  | nil =>
    refine wpList_append_own_none hgd s x t ho base e i 1 ht hi v xs.length xs hs hown hx ?_
    exact h v w (by rw [List.append_nil]; exact hown) ⟨rfl, rfl, rfl, Nat.le_refl _, fun _ _ _ => rfl⟩
  | at_ ad cap _ hc hm hrow =>
    refine wpList_append_own w hgd s x t ho base e i z 1 bytes ht hi hz hsize hby hzs (by decide) v xs.length xs hs hown ad vs.length cap vs hx (by omega) (fun j y hy => (hrow j y hy).2) h1 h63 hbytes hbase ?_
    intro v' w' h2 h3 _
    exact h v' w' (by rw [List.length_append]; exact h2) h3
end Go.Proofs.YtnplhpbbdgnmiaaDoor.Mem
