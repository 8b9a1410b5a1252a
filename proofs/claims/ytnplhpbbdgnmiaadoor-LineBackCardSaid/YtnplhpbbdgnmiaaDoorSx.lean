/-
  WALKS of layer 5: the texts of the kinds; where they lie; the document's own digits of one place.
-/
import Derived.Test.YtnplhpbbdgnmiaaDoorSg
import Derived.Lib.LaidTab
import Derived.Laws.IdiomStrings
namespace Go.Proofs.YtnplhpbbdgnmiaaDoor.Si
open Go.RowKit

/-- The texts, by kinds. -/
def txs : List (List UInt8) := [[110], [102, 48], [102, 48, 114], [102, 49], [102, 49, 114], [102, 50], [102, 50, 114], [102, 51], [102, 51, 114]]
def txB (i : Nat) : ByteArray := ⟨(txs.getD i []).toArray⟩
def textV (n : Int) : ByteArray := if 0 ≤ n ∧ n ≤ 8 then txB n.toNat else ⟨#[]⟩

/-- The texts lie in the world as the program's text lays them. -/
def Txs (w : World) : Prop := ∀ i : Nat, i < 9 → w.cell? ⟨2, i, none⟩ = some (.string (txB i))

theorem Txs.below {w w' : World} (h : Txs w) (hb : Below w.heap.size w w') : Txs w' := fun i hi =>
  (hb.cell (p := ⟨2, i, none⟩) (World.block_lt_of_cell? w _ (h i hi))).trans (h i hi)

theorem text_any (n : Int) (w : World) (h : Txs w) : Calls Tryd.prog 30 #[.int .i64 n] w fun e w' => e = .returned (.string (textV n)) ∧ w = w' := by
  have c0 := h 0 (by decide)
  have c1 := h 1 (by decide)
  have c2 := h 2 (by decide)
  have c3 := h 3 (by decide)
  have c4 := h 4 (by decide)
  have c5 := h 5 (by decide)
  have c6 := h 6 (by decide)
  have c7 := h 7 (by decide)
  have c8 := h 8 (by decide)
  clear h
  rcases eight n with h | h | rfl | rfl | rfl | rfl | rfl | rfl | rfl | rfl | rfl
  · have hx : textV n = ⟨#[]⟩ := by unfold textV; rw [if_neg (by omega)]
    rw [hx]
    clear hx c0 c1 c2 c3 c4 c5 c6 c7 c8
    have h1 : ¬ 0 ≤ n := by omega
    go_enter Tryd.func30, Tryd.ntmps30
    go_wp2
    all_goals go_ret
    all_goals exact ⟨rfl, rfl⟩
  · have hx : textV n = ⟨#[]⟩ := by unfold textV; rw [if_neg (by omega)]
    rw [hx]
    clear hx c0 c1 c2 c3 c4 c5 c6 c7 c8
    have h1 : ¬ n < 9 := by omega
    go_enter Tryd.func30, Tryd.ntmps30
    go_wp2
    all_goals go_ret
    all_goals exact ⟨rfl, rfl⟩
  all_goals
    go_enter Tryd.func30, Tryd.ntmps30
    go_wp2
    all_goals go_ret
    all_goals exact ⟨rfl, rfl⟩

theorem conv1 (w : World) (c : UInt8) (x : Int) (h : x = (c.toNat : Int)) :
    (convert 73 9 (.slice (some ⟨w.heap.size, 0, none⟩) 1 1)).run Tryd.prog (w.alloc (.cells #[.int .u8 x] 5)) = .ok (.string ⟨#[c]⟩) (w.alloc (.cells #[.int .u8 x] 5)) := by
  have := run_convert_bytes_back (P := Tryd.prog) (w.alloc (.cells #[.int .u8 x] 5)) 73 9 5 ⟨w.heap.size, 0, none⟩ 1 [c] Tryd.underlying73 Tryd.underlying5 Tryd.underlying9 (fun j hj => by
    obtain rfl : j = 0 := by simpa using hj
    subst h
    simp [Addr.add])
  exact this

end Go.Proofs.YtnplhpbbdgnmiaaDoor.Si
