/-
  MARKS AMONG A FUNCTION's DEFERRED CALLS, of no program: loops over functions that were gone through leave one each; at the end each is taken, and hands nothing over.
-/
import Derived.Test.YtlfgnoicjogfpaaZd
namespace Go.Proofs.Ytlfgnoicjogfpaa.Rf
open Go.RowKit
variable {F : Fence} {n : Nat} {P : Program}

def mark (r : Nat) : Deferred := { target := .collected r, args := #[] }
/-- Marks of blocks that hold no calls, no two of one block. -/
def Marks (rs : List Nat) (w : World) : Prop := rs.Nodup ∧ ∀ r ∈ rs, w.heap[r]? = some (.deferred (some []))

theorem Marks.keep {rs : List Nat} {w w' : World} (h : Marks rs w) (hk : ∀ r ∈ rs, w'.heap[r]? = w.heap[r]?) : Marks rs w' := ⟨h.1, fun r hr => (hk r hr).trans (h.2 r hr)⟩
theorem Marks.lt {rs : List Nat} {w : World} (h : Marks rs w) : ∀ r ∈ rs, r < w.heap.size := fun r hr => (Array.getElem?_eq_some_iff.1 (h.2 r hr)).1
theorem Marks.put {rs : List Nat} {w : World} {r : Nat} (h : Marks rs w) (hr : r ∉ rs) (hw : w.heap[r]? = some (.deferred (some []))) : Marks (r :: rs) w :=
  ⟨List.nodup_cons.2 ⟨hr, h.1⟩, fun x hx => by
    rcases List.mem_cons.1 hx with rfl | hx
    · exact hw
    · exact h.2 x hx⟩

/-- Only those blocks have turned, and they hold no cells. -/
structure Shut (rs : List Nat) (w w' : World) : Prop where
  keeps : Keeps (fun k => k ∉ rs) w w'
  cell : ∀ p, w'.cell? p = w.cell? p

theorem cell_shut {W : World} {d : Nat} {x y : Option (List Deferred)} (h : W.heap[d]? = some (.deferred x)) (p : Addr) : (W.putObj d (.deferred y)).cell? p = W.cell? p := by
  by_cases e : p.block = d
  · have h1 := World.putObj_heap_same (w := W) (o := .deferred y) (Array.getElem?_eq_some_iff.1 h).1
    rw [← e] at h h1
    unfold World.cell?
    rw [← e, h1, h]
  · exact World.cell?_of_block (World.putObj_heap_other e)

theorem leaves_marks {fn : Func} {tmps : Array Value} {R : Ending → World → Prop} {u : FrameMode} (hu : u ≠ .run) : ∀ (rs : List Nat) (w : World), Marks rs w →
    (∀ w', Shut rs w w' → LeavesIn F n P fn tmps R [] u w') → LeavesInM F n P fn tmps R (rs.map mark) u w
  | [], w, _, h => h w ⟨Keeps.refl _ w, fun _ => rfl⟩
  | r :: rs, w, hm, h => by
    have hr := hm.2 r List.mem_cons_self
    have hnr := (List.nodup_cons.1 hm.1).1
    refine ⟨hu, .inl ⟨r, _, rfl, run_takeDeferred hr, ?_⟩⟩
    refine leaves_marks hu rs _ ⟨(List.nodup_cons.1 hm.1).2, fun x hx => (World.putObj_heap_other (by intro e; subst e; exact hnr hx)).trans (hm.2 x (List.mem_cons_of_mem _ hx))⟩ fun w' hs => ?_
    refine h w' ⟨?_, fun p => (hs.cell p).trans (cell_shut hr p)⟩
    exact ((Keeps.refl _ w).putObj (by simp) _).trans (hs.keeps.mono fun k hk _ hx => hk (List.mem_cons_of_mem _ hx))
end Go.Proofs.Ytlfgnoicjogfpaa.Rf
