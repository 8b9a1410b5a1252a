/-
  WALKS: slices.Clone, slices.Grow of nil, slices.Concat at []byte (functions 39, 54, 38): each answers a new row of the call's own.
-/
import Derived.Test.YtbknmapkdjmcjaaGreatDoorRows
import Derived.Test.YtbknmapkdjmcjaaGreatDoorZe
import Derived.WalkKit
import Derived.ProofKit
import Derived.OpenShut
import Derived.Handy
import Derived.WalkLawsBesides
import Derived.WalkSpells
import Derived.Lib.Hide
import Derived.Lib.AppendZerosOnto
import Derived.Outline
namespace Go.Proofs.YtbknmapkdjmcjaaGreatDoor.By
open Go.ChangeShapes Go.WideShapes Go.ChangeAt Go.RowKit
open Mem

/-- Bytes as cells hold them. -/
def u8s (l : List UInt8) : List Value := l.map fun b => .int .u8 (b.toNat : Int)

theorem u8s_length (l : List UInt8) : (u8s l).length = l.length := by simp [u8s]
theorem u8s_one (l : List UInt8) : ∀ u ∈ u8s l, u.oneCell' = true := by
  intro u hu
  obtain ⟨b, _, rfl⟩ := List.mem_map.1 hu
  rfl
theorem u8s_append (l m : List UInt8) : u8s (l ++ m) = u8s l ++ u8s m := by simp [u8s]

theorem info5 : (Tryz.prog.info? 5).map (fun i => (i.zero, i.size, i.bytes)) = some (some (.int .u8 0), 1, 1) := by kernel_rfl

/-- The end of a call that answers a new row of its own. -/
def Owns (w : World) (vs : List Value) (e : Ending) (w' : World) : Prop :=
  ∃ v', e = .returned v' ∧ w'.ownsRow w.heap.size 5 1 v' vs.length vs ∧ Below w.heap.size w w'

set_option maxHeartbeats 400000 in
theorem clone_any (v : Value) (vs : List Value) (w : World) (B : Nat) (h : SlV w B v vs) (h1 : ∀ u ∈ vs, u.oneCell' = true) (hl : vs.length ≤ 1099511627776) :
    Calls Tryz.prog 83 #[v] w (Owns w vs) := by
  have hnil := fun (wx : World) (a : Option Addr) (l c : Nat) => Lib.run_eql_slice_nil (P := Tryz.prog) wx 35 5 a l c 0 0 Tryz.underlying35
  obtain ⟨i0, hi, hz0, hz1, hz2⟩ := info_parts info5
  cases h with
  | nil =>
    go_enter Tryz.func83, Tryz.ntmps83
    go_wp2
    go_ret
    exact ⟨_, rfl, World.ownsRow_nil _ _ _ _, Below.refl _ _⟩
  | at_ ad cap _ hc hm h =>
    have hown : (w.alloc (.cells #[] 5)).ownsRow w.heap.size 5 1 (.slice (some ⟨w.heap.size, 0, none⟩) 0 0) 0 [] := World.ownsRow_made w #[] 0 (Nat.le_refl _) (by unfold maxLen; omega) (by simp)
    have hcells : ∀ j u, vs[j]? = some u → (w.alloc (.cells #[] 5)).cell? (ad.add j) = some u := fun j u hu => by
      have h2 := (h j u hu).2
      rw [World.cell?_alloc_lt w _ _ (World.block_lt_of_cell? w _ h2)]
      exact h2
    have c2 : 0 + vs.length ≤ maxLen := by unfold maxLen; omega
    have c3 : (0 + vs.length) * 1 ≤ 140737488355328 := by omega
    have HC := Lib.hid hcells
    have HO := Lib.hid hown
    have H1 := Lib.hid h1
    clear hcells hown h1 h
    generalize hn : vs.length = n at hl hc c2 c3 ⊢
    have C1 := Lib.hid (show vs.length = n * 1 by omega)
    clear hn
    go_enter Tryz.func83, Tryz.ntmps83
    go_wp2_with (at_builtin; go_must (refine wpList_append_own _ rfl (.tmp 5) (.tmp 6) _ rfl w.heap.size 5 i0 (.int .u8 0) 1 1 Tryz.underlying35 hi hz0 hz1 hz2 rfl (by decide) (.slice (some ⟨w.heap.size, 0, none⟩) 0 0) 0 [] rfl HO.out ad n cap vs rfl C1.out HC.out H1.out c2 c3 (by simp) ?_); intro v1 w1 hown1 hg1 hn1)
    go_ret
    refine ⟨v1, rfl, ?_, ?_⟩
    · have e : vs.length = 0 + n := by have := C1.out; omega
      rw [e]
      simpa using hown1
    · exact ((Below.refl _ _).alloc (Nat.le_refl _) _).grown hg1 (by simp) (fun k hk => by simp [Value.ownBlock] at hk; omega)

theorem bytes5 : Tryz.t5.bytes = 1 := by kernel_rfl

/-- slices.Grow(nil, n): a row of the call's own, of no element yet. -/
theorem grow_nil (n : Nat) (w : World) (hl : n ≤ 1099511627776) :
    Calls Tryz.prog 149 #[.slice none 0 0, .int .i64 n] w (Owns w []) := by
  by_cases h0 : n = 0
  · subst h0
    go_enter Tryz.func149, Tryz.ntmps149
    go_wp2
    go_ret
    exact ⟨_, rfl, World.ownsRow_nil _ _ _ _, Below.refl _ _⟩
  · have hpos : 0 < n := by omega
    have hby : (n : Int) * (Tryz.t5.bytes : Int) ≤ 281474976710656 := by rw [bytes5]; omega
    have hfit : ¬ 281474976710656 < Builtin.nextslicecap n 0 * Tryz.t5.bytes := by
      have := growslice_fits (bytes := 1) (show 0 < n by omega) (by omega)
      rw [bytes5]; omega
    have hG : n ≤ grownCap w n 0 5 := grownCap_ge w _ _ _
    have hGm : grownCap w n 0 5 ≤ maxLen := grownCap_le_maxLen w n 0 5 (by unfold maxLen; omega)
    have hcap : (Builtin.zeroCells #[Value.int IntKind.u8 0] n ++ Builtin.zeroCells #[Value.int IntKind.u8 0] (grownCap w n 0 5 - n)).size = grownCap w n 0 5 * 1 := by
      rw [Array.size_append, size_zeroCells, size_zeroCells]
      simp
      omega
    have hown := World.ownsRow_made (base := w.heap.size) (e := 5) (size := 1) w _ (grownCap w n 0 5) (Nat.le_refl _) hGm hcap
    have HO := Lib.hid hown
    clear hown hcap hGm hG
    go_enter Tryz.func149, Tryz.ntmps149
    go_wp2
    go_ret
    exact ⟨_, rfl, HO.out, ((Below.refl _ _).alloc (Nat.le_refl _) _).drew⟩
end Go.Proofs.YtbknmapkdjmcjaaGreatDoor.By
