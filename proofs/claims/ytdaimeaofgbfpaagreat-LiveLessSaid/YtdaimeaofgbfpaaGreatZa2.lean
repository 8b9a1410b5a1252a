/-
 Za2
-/
import Derived.WalkKit
import Derived.ProofKit
import Derived.Lib.Hide
import Derived.Deep.RegionHeld3
import Derived.BigQuiet
import Derived.TacticsInMore
set_option linter.unusedSimpArgs false
set_option linter.unusedVariables false
namespace Go.Proofs.YtdaimeaofgbfpaaGreat
open Go.RowKit
set_option linter.defProp false in
def nmZ (α : Type) := And.intro (@List.getElem_toArray α) (And.intro (@List.getElem_cons_zero α) (And.intro (@List.getElem_cons_succ α) (And.intro (@List.setIfInBounds_toArray α) (And.intro (@List.set_cons_zero α) (@List.set_cons_succ α)))))
structure TkS (P : Program) (md : Region.Mode) (ops : Array Oper) (Q : Exit → Act → World → Prop) (S : World → Prop) (i : Nat) (l : Array Bool) (a : Act) (o : Oper) (v : Value) (l' : Array Bool) (a' : Act) : Prop where
 e : ops[i]? = some o := by rfl
 f : Region.free md ops l i = true := by kernel_rfl
 r : (Region.ready md ops l).contains i = true := by kernel_rfl
 y : YieldsIf P ops S o v a := by exact Or.inl ⟨by first | rfl | kernel_rfl, by intro W hSW; (try dsimp only at hSW); go_simp; try (with_reducible rfl)⟩
 q : ∀ c a w, Q (.panic c) (a.put o.dst v) w → Q (.panic c) a w := by exact fun _ _ _ h => h
 m : l.setIfInBounds i true = l' := by (try simp only [nmZ]); exact rfl
 p : a.put o.dst v = a' := by (try simp only [Act.put, nmZ]); exact rfl
structure TfS (P : Program) (md : Region.Mode) (ops : Array Oper) (Q : Exit → Act → World → Prop) (S : World → Prop) (i : Nat) (l : Array Bool) (a : Act) (o : Oper) (v : Value) (l' : Array Bool) (a' : Act) : Prop where
 e : ops[i]? = some o := by rfl
 f : Region.free md ops l i = true := by kernel_rfl
 r : (Region.ready md ops l).contains i = true := by kernel_rfl
 y : YieldsIf P ops S o v a := by exact Or.inr ⟨by first | rfl | kernel_rfl, by rfl⟩
 q : ∀ c a w, Q (.panic c) (a.put o.dst v) w → Q (.panic c) a w := by exact fun _ _ _ h => h
 m : l.setIfInBounds i true = l' := by (try simp only [nmZ]); exact rfl
 p : a.put o.dst v = a' := by (try simp only [Act.put, nmZ]); exact rfl
section
variable {P : Program} {md : Region.Mode} {ops : Array Oper} {Q : Exit → Act → World → Prop} {S : World → Prop} {fuel : Nat} {w : World}
theorem TkS.step {i : Nat} {l l' : Array Bool} {a a' : Act} {o : Oper} {v : Value} (s : TkS P md ops Q S i l a o v l' a') (hs : Region.noSelect ops = true) (hS : S w) (h : wpAnyH P md ops Q S fuel l' a' w) : wpAnyH P md ops Q S (fuel + 1) l a w := by
 obtain ⟨e, f, r, y, q, m, p⟩ := s
 subst m p
 exact wpAnyH_take e hs f r q y hS h
theorem TfS.step {i : Nat} {l l' : Array Bool} {a a' : Act} {o : Oper} {v : Value} (s : TfS P md ops Q S i l a o v l' a') (hs : Region.noSelect ops = true) (hS : S w) (h : wpAnyH P md ops Q S fuel l' a' w) : wpAnyH P md ops Q S (fuel + 1) l a w := TkS.step ⟨s.e, s.f, s.r, s.y, s.q, s.m, s.p⟩ hs hS h
variable {l0 l1 l2 l3 l4 l5 l6 l7 l8 : Array Bool} {a0 a1 a2 a3 a4 a5 a6 a7 a8 : Act} {o0 o1 o2 o3 o4 o5 o6 o7 : Oper} {v0 v1 v2 v3 v4 v5 v6 v7 : Value}
theorem tk1Z (i0 : Nat) (hS : S w) (h : wpAnyH P md ops Q S fuel l1 a1 w) (hs : Region.noSelect ops = true := by kernel_rfl) (s0 : TkS P md ops Q S i0 l0 a0 o0 v0 l1 a1 := by exact {}) : wpAnyH P md ops Q S (fuel + 1) l0 a0 w := s0.step hs hS h
theorem tk2Z (i0 i1 : Nat) (hS : S w) (h : wpAnyH P md ops Q S fuel l2 a2 w) (hs : Region.noSelect ops = true := by kernel_rfl) (s0 : TkS P md ops Q S i0 l0 a0 o0 v0 l1 a1 := by exact {}) (s1 : TkS P md ops Q S i1 l1 a1 o1 v1 l2 a2 := by exact {}) : wpAnyH P md ops Q S (fuel + 2) l0 a0 w := s0.step hs hS (s1.step hs hS h)
theorem tk3Z (i0 i1 i2 : Nat) (hS : S w) (h : wpAnyH P md ops Q S fuel l3 a3 w) (hs : Region.noSelect ops = true := by kernel_rfl) (s0 : TkS P md ops Q S i0 l0 a0 o0 v0 l1 a1 := by exact {}) (s1 : TkS P md ops Q S i1 l1 a1 o1 v1 l2 a2 := by exact {}) (s2 : TkS P md ops Q S i2 l2 a2 o2 v2 l3 a3 := by exact {}) : wpAnyH P md ops Q S (fuel + 3) l0 a0 w := s0.step hs hS (s1.step hs hS (s2.step hs hS h))
theorem tk4Z (i0 i1 i2 i3 : Nat) (hS : S w) (h : wpAnyH P md ops Q S fuel l4 a4 w) (hs : Region.noSelect ops = true := by kernel_rfl) (s0 : TkS P md ops Q S i0 l0 a0 o0 v0 l1 a1 := by exact {}) (s1 : TkS P md ops Q S i1 l1 a1 o1 v1 l2 a2 := by exact {}) (s2 : TkS P md ops Q S i2 l2 a2 o2 v2 l3 a3 := by exact {}) (s3 : TkS P md ops Q S i3 l3 a3 o3 v3 l4 a4 := by exact {}) : wpAnyH P md ops Q S (fuel + 4) l0 a0 w := s0.step hs hS (s1.step hs hS (s2.step hs hS (s3.step hs hS h)))
theorem tk5Z (i0 i1 i2 i3 i4 : Nat) (hS : S w) (h : wpAnyH P md ops Q S fuel l5 a5 w) (hs : Region.noSelect ops = true := by kernel_rfl) (s0 : TkS P md ops Q S i0 l0 a0 o0 v0 l1 a1 := by exact {}) (s1 : TkS P md ops Q S i1 l1 a1 o1 v1 l2 a2 := by exact {}) (s2 : TkS P md ops Q S i2 l2 a2 o2 v2 l3 a3 := by exact {}) (s3 : TkS P md ops Q S i3 l3 a3 o3 v3 l4 a4 := by exact {}) (s4 : TkS P md ops Q S i4 l4 a4 o4 v4 l5 a5 := by exact {}) : wpAnyH P md ops Q S (fuel + 5) l0 a0 w := s0.step hs hS (s1.step hs hS (s2.step hs hS (s3.step hs hS (s4.step hs hS h))))
theorem tk6Z (i0 i1 i2 i3 i4 i5 : Nat) (hS : S w) (h : wpAnyH P md ops Q S fuel l6 a6 w) (hs : Region.noSelect ops = true := by kernel_rfl) (s0 : TkS P md ops Q S i0 l0 a0 o0 v0 l1 a1 := by exact {}) (s1 : TkS P md ops Q S i1 l1 a1 o1 v1 l2 a2 := by exact {}) (s2 : TkS P md ops Q S i2 l2 a2 o2 v2 l3 a3 := by exact {}) (s3 : TkS P md ops Q S i3 l3 a3 o3 v3 l4 a4 := by exact {}) (s4 : TkS P md ops Q S i4 l4 a4 o4 v4 l5 a5 := by exact {}) (s5 : TkS P md ops Q S i5 l5 a5 o5 v5 l6 a6 := by exact {}) : wpAnyH P md ops Q S (fuel + 6) l0 a0 w := s0.step hs hS (s1.step hs hS (s2.step hs hS (s3.step hs hS (s4.step hs hS (s5.step hs hS h)))))
theorem tk7Z (i0 i1 i2 i3 i4 i5 i6 : Nat) (hS : S w) (h : wpAnyH P md ops Q S fuel l7 a7 w) (hs : Region.noSelect ops = true := by kernel_rfl) (s0 : TkS P md ops Q S i0 l0 a0 o0 v0 l1 a1 := by exact {}) (s1 : TkS P md ops Q S i1 l1 a1 o1 v1 l2 a2 := by exact {}) (s2 : TkS P md ops Q S i2 l2 a2 o2 v2 l3 a3 := by exact {}) (s3 : TkS P md ops Q S i3 l3 a3 o3 v3 l4 a4 := by exact {}) (s4 : TkS P md ops Q S i4 l4 a4 o4 v4 l5 a5 := by exact {}) (s5 : TkS P md ops Q S i5 l5 a5 o5 v5 l6 a6 := by exact {}) (s6 : TkS P md ops Q S i6 l6 a6 o6 v6 l7 a7 := by exact {}) : wpAnyH P md ops Q S (fuel + 7) l0 a0 w := s0.step hs hS (s1.step hs hS (s2.step hs hS (s3.step hs hS (s4.step hs hS (s5.step hs hS (s6.step hs hS h))))))
theorem tk8Z (i0 i1 i2 i3 i4 i5 i6 i7 : Nat) (hS : S w) (h : wpAnyH P md ops Q S fuel l8 a8 w) (hs : Region.noSelect ops = true := by kernel_rfl) (s0 : TkS P md ops Q S i0 l0 a0 o0 v0 l1 a1 := by exact {}) (s1 : TkS P md ops Q S i1 l1 a1 o1 v1 l2 a2 := by exact {}) (s2 : TkS P md ops Q S i2 l2 a2 o2 v2 l3 a3 := by exact {}) (s3 : TkS P md ops Q S i3 l3 a3 o3 v3 l4 a4 := by exact {}) (s4 : TkS P md ops Q S i4 l4 a4 o4 v4 l5 a5 := by exact {}) (s5 : TkS P md ops Q S i5 l5 a5 o5 v5 l6 a6 := by exact {}) (s6 : TkS P md ops Q S i6 l6 a6 o6 v6 l7 a7 := by exact {}) (s7 : TkS P md ops Q S i7 l7 a7 o7 v7 l8 a8 := by exact {}) : wpAnyH P md ops Q S (fuel + 8) l0 a0 w := s0.step hs hS (s1.step hs hS (s2.step hs hS (s3.step hs hS (s4.step hs hS (s5.step hs hS (s6.step hs hS (s7.step hs hS h)))))))
theorem tf1Z (i0 : Nat) (hS : S w) (h : wpAnyH P md ops Q S fuel l1 a1 w) (hs : Region.noSelect ops = true := by kernel_rfl) (s0 : TfS P md ops Q S i0 l0 a0 o0 v0 l1 a1 := by exact {}) : wpAnyH P md ops Q S (fuel + 1) l0 a0 w := s0.step hs hS h
theorem tf2Z (i0 i1 : Nat) (hS : S w) (h : wpAnyH P md ops Q S fuel l2 a2 w) (hs : Region.noSelect ops = true := by kernel_rfl) (s0 : TfS P md ops Q S i0 l0 a0 o0 v0 l1 a1 := by exact {}) (s1 : TfS P md ops Q S i1 l1 a1 o1 v1 l2 a2 := by exact {}) : wpAnyH P md ops Q S (fuel + 2) l0 a0 w := s0.step hs hS (s1.step hs hS h)
theorem tf3Z (i0 i1 i2 : Nat) (hS : S w) (h : wpAnyH P md ops Q S fuel l3 a3 w) (hs : Region.noSelect ops = true := by kernel_rfl) (s0 : TfS P md ops Q S i0 l0 a0 o0 v0 l1 a1 := by exact {}) (s1 : TfS P md ops Q S i1 l1 a1 o1 v1 l2 a2 := by exact {}) (s2 : TfS P md ops Q S i2 l2 a2 o2 v2 l3 a3 := by exact {}) : wpAnyH P md ops Q S (fuel + 3) l0 a0 w := s0.step hs hS (s1.step hs hS (s2.step hs hS h))
theorem tf4Z (i0 i1 i2 i3 : Nat) (hS : S w) (h : wpAnyH P md ops Q S fuel l4 a4 w) (hs : Region.noSelect ops = true := by kernel_rfl) (s0 : TfS P md ops Q S i0 l0 a0 o0 v0 l1 a1 := by exact {}) (s1 : TfS P md ops Q S i1 l1 a1 o1 v1 l2 a2 := by exact {}) (s2 : TfS P md ops Q S i2 l2 a2 o2 v2 l3 a3 := by exact {}) (s3 : TfS P md ops Q S i3 l3 a3 o3 v3 l4 a4 := by exact {}) : wpAnyH P md ops Q S (fuel + 4) l0 a0 w := s0.step hs hS (s1.step hs hS (s2.step hs hS (s3.step hs hS h)))
theorem tf5Z (i0 i1 i2 i3 i4 : Nat) (hS : S w) (h : wpAnyH P md ops Q S fuel l5 a5 w) (hs : Region.noSelect ops = true := by kernel_rfl) (s0 : TfS P md ops Q S i0 l0 a0 o0 v0 l1 a1 := by exact {}) (s1 : TfS P md ops Q S i1 l1 a1 o1 v1 l2 a2 := by exact {}) (s2 : TfS P md ops Q S i2 l2 a2 o2 v2 l3 a3 := by exact {}) (s3 : TfS P md ops Q S i3 l3 a3 o3 v3 l4 a4 := by exact {}) (s4 : TfS P md ops Q S i4 l4 a4 o4 v4 l5 a5 := by exact {}) : wpAnyH P md ops Q S (fuel + 5) l0 a0 w := s0.step hs hS (s1.step hs hS (s2.step hs hS (s3.step hs hS (s4.step hs hS h))))
theorem tf6Z (i0 i1 i2 i3 i4 i5 : Nat) (hS : S w) (h : wpAnyH P md ops Q S fuel l6 a6 w) (hs : Region.noSelect ops = true := by kernel_rfl) (s0 : TfS P md ops Q S i0 l0 a0 o0 v0 l1 a1 := by exact {}) (s1 : TfS P md ops Q S i1 l1 a1 o1 v1 l2 a2 := by exact {}) (s2 : TfS P md ops Q S i2 l2 a2 o2 v2 l3 a3 := by exact {}) (s3 : TfS P md ops Q S i3 l3 a3 o3 v3 l4 a4 := by exact {}) (s4 : TfS P md ops Q S i4 l4 a4 o4 v4 l5 a5 := by exact {}) (s5 : TfS P md ops Q S i5 l5 a5 o5 v5 l6 a6 := by exact {}) : wpAnyH P md ops Q S (fuel + 6) l0 a0 w := s0.step hs hS (s1.step hs hS (s2.step hs hS (s3.step hs hS (s4.step hs hS (s5.step hs hS h)))))
theorem tf7Z (i0 i1 i2 i3 i4 i5 i6 : Nat) (hS : S w) (h : wpAnyH P md ops Q S fuel l7 a7 w) (hs : Region.noSelect ops = true := by kernel_rfl) (s0 : TfS P md ops Q S i0 l0 a0 o0 v0 l1 a1 := by exact {}) (s1 : TfS P md ops Q S i1 l1 a1 o1 v1 l2 a2 := by exact {}) (s2 : TfS P md ops Q S i2 l2 a2 o2 v2 l3 a3 := by exact {}) (s3 : TfS P md ops Q S i3 l3 a3 o3 v3 l4 a4 := by exact {}) (s4 : TfS P md ops Q S i4 l4 a4 o4 v4 l5 a5 := by exact {}) (s5 : TfS P md ops Q S i5 l5 a5 o5 v5 l6 a6 := by exact {}) (s6 : TfS P md ops Q S i6 l6 a6 o6 v6 l7 a7 := by exact {}) : wpAnyH P md ops Q S (fuel + 7) l0 a0 w := s0.step hs hS (s1.step hs hS (s2.step hs hS (s3.step hs hS (s4.step hs hS (s5.step hs hS (s6.step hs hS h))))))
theorem tf8Z (i0 i1 i2 i3 i4 i5 i6 i7 : Nat) (hS : S w) (h : wpAnyH P md ops Q S fuel l8 a8 w) (hs : Region.noSelect ops = true := by kernel_rfl) (s0 : TfS P md ops Q S i0 l0 a0 o0 v0 l1 a1 := by exact {}) (s1 : TfS P md ops Q S i1 l1 a1 o1 v1 l2 a2 := by exact {}) (s2 : TfS P md ops Q S i2 l2 a2 o2 v2 l3 a3 := by exact {}) (s3 : TfS P md ops Q S i3 l3 a3 o3 v3 l4 a4 := by exact {}) (s4 : TfS P md ops Q S i4 l4 a4 o4 v4 l5 a5 := by exact {}) (s5 : TfS P md ops Q S i5 l5 a5 o5 v5 l6 a6 := by exact {}) (s6 : TfS P md ops Q S i6 l6 a6 o6 v6 l7 a7 := by exact {}) (s7 : TfS P md ops Q S i7 l7 a7 o7 v7 l8 a8 := by exact {}) : wpAnyH P md ops Q S (fuel + 8) l0 a0 w := s0.step hs hS (s1.step hs hS (s2.step hs hS (s3.step hs hS (s4.step hs hS (s5.step hs hS (s6.step hs hS (s7.step hs hS h)))))))
end
theorem Hd {p : Prop} (h : p) : RowKit.Hid p := h
theorem rd1Z {P : Program} {md : Region.Mode} {ops : Array Oper} {Q : Exit → Act → World → Prop} {S : World → Prop} {m : Nat} {l : Array Bool} {a : Act} {w : World} (i : Nat) {o : Oper}
 (h : ∀ K' : Act → World → Prop, Shut (∀ a w, S w → (S w → wpAnyH P md ops Q S m (l.setIfInBounds i true) a w) → K' a w) → if Region.wanted o (yielded ops a.tmps) = true then Oper.wp P o a w K' Q else K' (a.put o.dst undef) w) (ho : ops[i]? = some o := by rfl) (hr : Region.ready md ops l = [i] := by kernel_rfl) : wpAnyH P md ops Q S (m + 1) l a w := wpAnyH_ready hr (by simp) (AllReadyH.cons ho h AllReadyH.nil)
end Go.Proofs.YtdaimeaofgbfpaaGreat
