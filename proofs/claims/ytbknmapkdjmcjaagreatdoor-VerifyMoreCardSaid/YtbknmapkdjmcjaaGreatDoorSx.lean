/-
  WALKS of layer 5, the small calls: Of, Is, Params, Answers, Later, Class, isKind, and the document's own ones. WALKS of layer 5: the texts of the kinds; where they lie; the document's own digits of one place.
-/
import Derived.Test.YtbknmapkdjmcjaaGreatDoorRows
import Derived.WalkKit
import Derived.ProofKit
import Derived.WalkSpells
import Derived.WalkLawsBesides
import Derived.Lib.Hide
import Derived.BigQuiet
import Derived.Deep.QuietTactic
import Derived.LoopTactic
import Derived.Below
import Derived.Lib.LaidTab
import Derived.Laws.IdiomStrings
namespace Go.Proofs.YtbknmapkdjmcjaaGreatDoor.Si
open Go.RowKit

theorem ret_bool {a b : Bool} (h : a = b) : Ending.returned (.bool a) = .returned (.bool b) := by rw [h]
theorem ret_int {k : IntKind} {a b : Int} (h : a = b) : Ending.returned (.int k a) = .returned (.int k b) := by rw [h]

def isC (n : Int) : Bool := decide (0 ≤ n ∧ n ≤ 7)
def parV (n : Int) : Int := if 0 ≤ n ∧ n ≤ 7 then n / 2 else 0
def ansV (n : Int) : Bool := decide (0 ≤ n ∧ n ≤ 7 ∧ n % 2 = 1)
def latV (n : Int) : Bool := decide (n = 0 ∨ n = 2)
def ofV (n : Int) (b : Bool) : Int := if 0 ≤ n ∧ n ≤ 3 then (if b then 2 * n + 1 else 2 * n) else 0
def ofB (n : Int) : Bool := decide (0 ≤ n ∧ n ≤ 3)
def clV (n : Int) : Int := if 1 ≤ n ∧ n ≤ 8 then n - 1 else 0
def clB (n : Int) : Bool := decide (1 ≤ n ∧ n ≤ 8)
def kindB (n : Int) : Bool := decide (0 ≤ n ∧ n ≤ 8)

/-- A number below, a number above, or one of those between. -/
theorem eight (n : Int) : n < 0 ∨ 8 < n ∨ n = 0 ∨ n = 1 ∨ n = 2 ∨ n = 3 ∨ n = 4 ∨ n = 5 ∨ n = 6 ∨ n = 7 ∨ n = 8 := by omega

theorem is_any (n : Int) (w : World) : Calls Tryz.prog 126 #[.int .i64 n] w fun e w' => e = .returned (.bool (isC n)) ∧ w = w' := by
  rcases eight n with h | h | rfl | rfl | rfl | rfl | rfl | rfl | rfl | rfl | rfl
  · have hx : isC n = false := by unfold isC; simp; omega
    rw [hx]
    clear hx
    have h1 : ¬ 0 ≤ n := by omega
    have h2 : ¬ 1 ≤ n := by omega
    have h3 : (n == 0) = false := by simp; omega
    have h4 : (n == 2) = false := by simp; omega
    go_enter Tryz.func126, Tryz.ntmps126
    go_wp2
    all_goals go_ret
    all_goals exact ⟨rfl, rfl⟩
  · have hx : isC n = false := by unfold isC; simp; omega
    rw [hx]
    clear hx
    have h1 : ¬ n < 8 := by omega
    have h2 : ¬ n ≤ 7 := by omega
    have h3 : (n == 0) = false := by simp; omega
    have h4 : (n == 2) = false := by simp; omega
    go_enter Tryz.func126, Tryz.ntmps126
    go_wp2
    all_goals go_ret
    all_goals exact ⟨rfl, rfl⟩
  all_goals
    go_enter Tryz.func126, Tryz.ntmps126
    go_wp2
    all_goals go_ret
    all_goals exact ⟨rfl, rfl⟩

theorem par_any (n : Int) (w : World) : Calls Tryz.prog 127 #[.int .i64 n] w fun e w' => e = .returned (.int .i64 (parV n)) ∧ w = w' := by
  rcases eight n with h | h | rfl | rfl | rfl | rfl | rfl | rfl | rfl | rfl | rfl
  · have hx : parV n = 0 := by unfold parV; simp; omega
    rw [hx]
    clear hx
    have h1 : ¬ 0 ≤ n := by omega
    have h2 : ¬ 1 ≤ n := by omega
    have h3 : (n == 0) = false := by simp; omega
    have h4 : (n == 2) = false := by simp; omega
    go_enter Tryz.func127, Tryz.ntmps127
    go_wp2
    all_goals go_ret
    all_goals exact ⟨rfl, rfl⟩
  · have hx : parV n = 0 := by unfold parV; simp; omega
    rw [hx]
    clear hx
    have h1 : ¬ n < 8 := by omega
    have h2 : ¬ n ≤ 7 := by omega
    have h3 : (n == 0) = false := by simp; omega
    have h4 : (n == 2) = false := by simp; omega
    go_enter Tryz.func127, Tryz.ntmps127
    go_wp2
    all_goals go_ret
    all_goals exact ⟨rfl, rfl⟩
  all_goals
    go_enter Tryz.func127, Tryz.ntmps127
    go_wp2
    all_goals go_ret
    all_goals exact ⟨rfl, rfl⟩

theorem ans_any (n : Int) (w : World) : Calls Tryz.prog 231 #[.int .i64 n] w fun e w' => e = .returned (.bool (ansV n)) ∧ w = w' := by
  rcases eight n with h | h | rfl | rfl | rfl | rfl | rfl | rfl | rfl | rfl | rfl
  · have hx : ansV n = false := by unfold ansV; simp; omega
    rw [hx]
    clear hx
    have h1 : ¬ 0 ≤ n := by omega
    have h2 : ¬ 1 ≤ n := by omega
    have h3 : (n == 0) = false := by simp; omega
    have h4 : (n == 2) = false := by simp; omega
    go_enter Tryz.func231, Tryz.ntmps231
    go_wp2
    all_goals go_ret
    all_goals exact ⟨rfl, rfl⟩
  · have hx : ansV n = false := by unfold ansV; simp; omega
    rw [hx]
    clear hx
    have h1 : ¬ n < 8 := by omega
    have h2 : ¬ n ≤ 7 := by omega
    have h3 : (n == 0) = false := by simp; omega
    have h4 : (n == 2) = false := by simp; omega
    go_enter Tryz.func231, Tryz.ntmps231
    go_wp2
    all_goals go_ret
    all_goals exact ⟨rfl, rfl⟩
  all_goals
    go_enter Tryz.func231, Tryz.ntmps231
    go_wp2
    all_goals go_ret
    all_goals exact ⟨rfl, rfl⟩

theorem lat_any (n : Int) (w : World) : Calls Tryz.prog 166 #[.int .i64 n] w fun e w' => e = .returned (.bool (latV n)) ∧ w = w' := by
  rcases eight n with h | h | rfl | rfl | rfl | rfl | rfl | rfl | rfl | rfl | rfl
  · have hx : latV n = false := by unfold latV; simp; omega
    rw [hx]
    clear hx
    have h1 : ¬ 0 ≤ n := by omega
    have h2 : ¬ 1 ≤ n := by omega
    have h3 : (n == 0) = false := by simp; omega
    have h4 : (n == 2) = false := by simp; omega
    go_enter Tryz.func166, Tryz.ntmps166
    go_wp2
    all_goals go_ret
    all_goals exact ⟨rfl, rfl⟩
  · have hx : latV n = false := by unfold latV; simp; omega
    rw [hx]
    clear hx
    have h1 : ¬ n < 8 := by omega
    have h2 : ¬ n ≤ 7 := by omega
    have h3 : (n == 0) = false := by simp; omega
    have h4 : (n == 2) = false := by simp; omega
    go_enter Tryz.func166, Tryz.ntmps166
    go_wp2
    all_goals go_ret
    all_goals exact ⟨rfl, rfl⟩
  all_goals
    go_enter Tryz.func166, Tryz.ntmps166
    go_wp2
    all_goals go_ret
    all_goals exact ⟨rfl, rfl⟩

theorem cl_any (n : Int) (hlo : -9223372036854775808 ≤ n) (hhi : n ≤ 9223372036854775807) (w : World) : Calls Tryz.prog 230 #[.int .i64 n] w fun e w' => e = .returned (.tuple #[.int .i64 (clV n), .bool (clB n)]) ∧ w = w' := by
  rcases eight n with h | h | rfl | rfl | rfl | rfl | rfl | rfl | rfl | rfl | rfl
  · have hx : clV n = 0 ∧ clB n = false := by unfold clV clB; refine ⟨?_, ?_⟩ <;> (simp; omega)
    rw [hx.1, hx.2]
    clear hx
    by_cases hm : n = -9223372036854775808
    · subst hm
      go_enter Tryz.func230, Tryz.ntmps230
      go_wp2
      all_goals go_ret2
      all_goals exact ⟨rfl, rfl⟩
    · have h1 : ¬ 0 ≤ n := by omega
      have h2 : ¬ 0 ≤ n - 1 := by omega
      have h3 : (n == 0) = false := by simp; omega
      have h4 : -9223372036854775808 ≤ n - 1 := by omega
      clear hm
      go_enter Tryz.func230, Tryz.ntmps230
      go_wp2
      all_goals go_ret2
      all_goals exact ⟨rfl, rfl⟩
  · have hx : clV n = 0 ∧ clB n = false := by unfold clV clB; refine ⟨?_, ?_⟩ <;> (simp; omega)
    rw [hx.1, hx.2]
    clear hx
    have h1 : ¬ n < 8 := by omega
    have h2 : ¬ n ≤ 7 := by omega
    have h5 : ¬ n < 9 := by omega
    have h6 : ¬ n - 1 ≤ 7 := by omega
    have h3 : (n == 0) = false := by simp; omega
    have h4 : (n == 2) = false := by simp; omega
    go_enter Tryz.func230, Tryz.ntmps230
    go_wp2
    all_goals go_ret2
    all_goals exact ⟨rfl, rfl⟩
  all_goals
    go_enter Tryz.func230, Tryz.ntmps230
    go_wp2
    all_goals go_ret2
    all_goals exact ⟨rfl, rfl⟩

theorem ris_any (n : Int) (w : World) : Calls Tryz.prog 100 #[.int .i64 n] w fun e w' => e = .returned (.bool (isC n)) ∧ w = w' := by
  rcases eight n with h | h | rfl | rfl | rfl | rfl | rfl | rfl | rfl | rfl | rfl
  · have hx : isC n = false := by unfold isC; simp; omega
    rw [hx]
    clear hx
    have h1 : ¬ 0 ≤ n := by omega
    have h2 : ¬ 1 ≤ n := by omega
    have h3 : (n == 0) = false := by simp; omega
    have h4 : (n == 2) = false := by simp; omega
    go_enter Tryz.func100, Tryz.ntmps100
    go_wp2
    all_goals go_ret
    all_goals exact ⟨rfl, rfl⟩
  · have hx : isC n = false := by unfold isC; simp; omega
    rw [hx]
    clear hx
    have h1 : ¬ n < 8 := by omega
    have h2 : ¬ n ≤ 7 := by omega
    have h3 : (n == 0) = false := by simp; omega
    have h4 : (n == 2) = false := by simp; omega
    go_enter Tryz.func100, Tryz.ntmps100
    go_wp2
    all_goals go_ret
    all_goals exact ⟨rfl, rfl⟩
  all_goals
    go_enter Tryz.func100, Tryz.ntmps100
    go_wp2
    all_goals go_ret
    all_goals exact ⟨rfl, rfl⟩

theorem rpar_any (n : Int) (w : World) : Calls Tryz.prog 144 #[.int .i64 n] w fun e w' => e = .returned (.int .i64 (parV n)) ∧ w = w' := by
  rcases eight n with h | h | rfl | rfl | rfl | rfl | rfl | rfl | rfl | rfl | rfl
  · have hx : parV n = 0 := by unfold parV; simp; omega
    rw [hx]
    clear hx
    have h1 : ¬ 0 ≤ n := by omega
    have h2 : ¬ 1 ≤ n := by omega
    have h3 : (n == 0) = false := by simp; omega
    have h4 : (n == 2) = false := by simp; omega
    go_enter Tryz.func144, Tryz.ntmps144
    go_wp2
    all_goals go_ret
    all_goals exact ⟨rfl, rfl⟩
  · have hx : parV n = 0 := by unfold parV; simp; omega
    rw [hx]
    clear hx
    have h1 : ¬ n < 8 := by omega
    have h2 : ¬ n ≤ 7 := by omega
    have h3 : (n == 0) = false := by simp; omega
    have h4 : (n == 2) = false := by simp; omega
    go_enter Tryz.func144, Tryz.ntmps144
    go_wp2
    all_goals go_ret
    all_goals exact ⟨rfl, rfl⟩
  all_goals
    go_enter Tryz.func144, Tryz.ntmps144
    go_wp2
    all_goals go_ret
    all_goals exact ⟨rfl, rfl⟩

theorem rans_any (n : Int) (w : World) : Calls Tryz.prog 177 #[.int .i64 n] w fun e w' => e = .returned (.bool (ansV n)) ∧ w = w' := by
  rcases eight n with h | h | rfl | rfl | rfl | rfl | rfl | rfl | rfl | rfl | rfl
  · have hx : ansV n = false := by unfold ansV; simp; omega
    rw [hx]
    clear hx
    have h1 : ¬ 0 ≤ n := by omega
    have h2 : ¬ 1 ≤ n := by omega
    have h3 : (n == 0) = false := by simp; omega
    have h4 : (n == 2) = false := by simp; omega
    go_enter Tryz.func177, Tryz.ntmps177
    go_wp2
    all_goals go_ret
    all_goals exact ⟨rfl, rfl⟩
  · have hx : ansV n = false := by unfold ansV; simp; omega
    rw [hx]
    clear hx
    have h1 : ¬ n < 8 := by omega
    have h2 : ¬ n ≤ 7 := by omega
    have h3 : (n == 0) = false := by simp; omega
    have h4 : (n == 2) = false := by simp; omega
    go_enter Tryz.func177, Tryz.ntmps177
    go_wp2
    all_goals go_ret
    all_goals exact ⟨rfl, rfl⟩
  all_goals
    go_enter Tryz.func177, Tryz.ntmps177
    go_wp2
    all_goals go_ret
    all_goals exact ⟨rfl, rfl⟩

theorem rlat_any (n : Int) (w : World) : Calls Tryz.prog 101 #[.int .i64 n] w fun e w' => e = .returned (.bool (latV n)) ∧ w = w' := by
  rcases eight n with h | h | rfl | rfl | rfl | rfl | rfl | rfl | rfl | rfl | rfl
  · have hx : latV n = false := by unfold latV; simp; omega
    rw [hx]
    clear hx
    have h1 : ¬ 0 ≤ n := by omega
    have h2 : ¬ 1 ≤ n := by omega
    have h3 : (n == 0) = false := by simp; omega
    have h4 : (n == 2) = false := by simp; omega
    go_enter Tryz.func101, Tryz.ntmps101
    go_wp2
    all_goals go_ret
    all_goals exact ⟨rfl, rfl⟩
  · have hx : latV n = false := by unfold latV; simp; omega
    rw [hx]
    clear hx
    have h1 : ¬ n < 8 := by omega
    have h2 : ¬ n ≤ 7 := by omega
    have h3 : (n == 0) = false := by simp; omega
    have h4 : (n == 2) = false := by simp; omega
    go_enter Tryz.func101, Tryz.ntmps101
    go_wp2
    all_goals go_ret
    all_goals exact ⟨rfl, rfl⟩
  all_goals
    go_enter Tryz.func101, Tryz.ntmps101
    go_wp2
    all_goals go_ret
    all_goals exact ⟨rfl, rfl⟩

theorem rcl_any (n : Int) (hlo : -9223372036854775808 ≤ n) (hhi : n ≤ 9223372036854775807) (w : World) : Calls Tryz.prog 223 #[.int .i64 n] w fun e w' => e = .returned (.tuple #[.int .i64 (clV n), .bool (clB n)]) ∧ w = w' := by
  rcases eight n with h | h | rfl | rfl | rfl | rfl | rfl | rfl | rfl | rfl | rfl
  · have hx : clV n = 0 ∧ clB n = false := by unfold clV clB; refine ⟨?_, ?_⟩ <;> (simp; omega)
    rw [hx.1, hx.2]
    clear hx
    by_cases hm : n = -9223372036854775808
    · subst hm
      have hw : ¬ wrap64 (-9223372036854775809) ≤ 7 := by decide +kernel
      have hw0 : 0 ≤ wrap64 (-9223372036854775809) := by decide +kernel
      go_enter Tryz.func223, Tryz.ntmps223
      go_wp2
      all_goals go_ret2
      all_goals exact ⟨rfl, rfl⟩
    · have h1 : ¬ 0 ≤ n := by omega
      have h2 : ¬ 0 ≤ n - 1 := by omega
      have h3 : (n == 0) = false := by simp; omega
      have h4 : -9223372036854775808 ≤ n - 1 := by omega
      clear hm
      go_enter Tryz.func223, Tryz.ntmps223
      go_wp2
      all_goals go_ret2
      all_goals exact ⟨rfl, rfl⟩
  · have hx : clV n = 0 ∧ clB n = false := by unfold clV clB; refine ⟨?_, ?_⟩ <;> (simp; omega)
    rw [hx.1, hx.2]
    clear hx
    have h1 : ¬ n < 8 := by omega
    have h2 : ¬ n ≤ 7 := by omega
    have h5 : ¬ n < 9 := by omega
    have h6 : ¬ n - 1 ≤ 7 := by omega
    have h3 : (n == 0) = false := by simp; omega
    have h4 : (n == 2) = false := by simp; omega
    go_enter Tryz.func223, Tryz.ntmps223
    go_wp2
    all_goals go_ret2
    all_goals exact ⟨rfl, rfl⟩
  all_goals
    go_enter Tryz.func223, Tryz.ntmps223
    go_wp2
    all_goals go_ret2
    all_goals exact ⟨rfl, rfl⟩

theorem kind_any (n : Int) (w : World) : Calls Tryz.prog 277 #[.int .i64 n] w fun e w' => e = .returned (.bool (kindB n)) ∧ w = w' := by
  rcases eight n with h | h | rfl | rfl | rfl | rfl | rfl | rfl | rfl | rfl | rfl
  · have hx : kindB n = false := by unfold kindB; simp; omega
    rw [hx]
    clear hx
    have h1 : ¬ 0 ≤ n := by omega
    have h2 : ¬ 1 ≤ n := by omega
    have h3 : (n == 0) = false := by simp; omega
    have h4 : (n == 2) = false := by simp; omega
    go_enter Tryz.func277, Tryz.ntmps277
    go_wp2
    all_goals go_ret
    all_goals exact ⟨rfl, rfl⟩
  · have hx : kindB n = false := by unfold kindB; simp; omega
    rw [hx]
    clear hx
    have h1 : ¬ n < 8 := by omega
    have h2 : ¬ n ≤ 7 := by omega
    have h5 : ¬ n < 9 := by omega
    have h3 : (n == 0) = false := by simp; omega
    have h4 : (n == 2) = false := by simp; omega
    go_enter Tryz.func277, Tryz.ntmps277
    go_wp2
    all_goals go_ret
    all_goals exact ⟨rfl, rfl⟩
  all_goals
    go_enter Tryz.func277, Tryz.ntmps277
    go_wp2
    all_goals go_ret
    all_goals exact ⟨rfl, rfl⟩

end Go.Proofs.YtbknmapkdjmcjaaGreatDoor.Si

namespace Go.Proofs.YtbknmapkdjmcjaaGreatDoor.Si
open Go.RowKit

/-- The texts, by kinds. -/
def txs : List (List UInt8) := [[110], [102, 48], [102, 48, 114], [102, 49], [102, 49, 114], [102, 50], [102, 50, 114], [102, 51], [102, 51, 114]]
def txB (i : Nat) : ByteArray := ⟨(txs.getD i []).toArray⟩
def textV (n : Int) : ByteArray := if 0 ≤ n ∧ n ≤ 8 then txB n.toNat else ⟨#[]⟩

/-- The texts lie in the world as the program's text lays them. -/
def Txs (w : World) : Prop := ∀ i : Nat, i < 9 → w.cell? ⟨1, i, none⟩ = some (.string (txB i))

theorem Txs.below {w w' : World} (h : Txs w) (hb : Below w.heap.size w w') : Txs w' := fun i hi =>
  (hb.cell (p := ⟨1, i, none⟩) (World.block_lt_of_cell? w _ (h i hi))).trans (h i hi)

theorem text_any (n : Int) (w : World) (h : Txs w) : Calls Tryz.prog 213 #[.int .i64 n] w fun e w' => e = .returned (.string (textV n)) ∧ w = w' := by
  have c0 := h 0 (by decide)
  have c1 := h 1 (by decide)
  have c2 := h 2 (by decide)
  have c3 := h 3 (by decide)
  have c4 := h 4 (by decide)
  have c5 := h 5 (by decide)
  have c6 := h 6 (by decide)
  have c7 := h 7 (by decide)
  have c8 := h 8 (by decide)
  clear h
  rcases eight n with h | h | rfl | rfl | rfl | rfl | rfl | rfl | rfl | rfl | rfl
  · have hx : textV n = ⟨#[]⟩ := by unfold textV; rw [if_neg (by omega)]
    rw [hx]
    clear hx c0 c1 c2 c3 c4 c5 c6 c7 c8
    have h1 : ¬ 0 ≤ n := by omega
    go_enter Tryz.func213, Tryz.ntmps213
    go_wp2
    all_goals go_ret
    all_goals exact ⟨rfl, rfl⟩
  · have hx : textV n = ⟨#[]⟩ := by unfold textV; rw [if_neg (by omega)]
    rw [hx]
    clear hx c0 c1 c2 c3 c4 c5 c6 c7 c8
    have h1 : ¬ n < 9 := by omega
    go_enter Tryz.func213, Tryz.ntmps213
    go_wp2
    all_goals go_ret
    all_goals exact ⟨rfl, rfl⟩
  all_goals
    go_enter Tryz.func213, Tryz.ntmps213
    go_wp2
    all_goals go_ret
    all_goals exact ⟨rfl, rfl⟩

theorem conv1 (w : World) (c : UInt8) (x : Int) (h : x = (c.toNat : Int)) :
    (convert 35 9 (.slice (some ⟨w.heap.size, 0, none⟩) 1 1)).run Tryz.prog (w.alloc (.cells #[.int .u8 x] 5)) = .ok (.string ⟨#[c]⟩) (w.alloc (.cells #[.int .u8 x] 5)) := by
  have := run_convert_bytes_back (P := Tryz.prog) (w.alloc (.cells #[.int .u8 x] 5)) 35 9 5 ⟨w.heap.size, 0, none⟩ 1 [c] Tryz.underlying35 Tryz.underlying5 Tryz.underlying9 (fun j hj => by
    obtain rfl : j = 0 := by simpa using hj
    subst h
    simp [Addr.add])
  exact this

theorem dig0 (w : World) : Calls Tryz.prog 224 #[.int .i64 0] w fun e w' => e = .returned (.string ⟨#[48]⟩) ∧ Below w.heap.size w w' := by
  go_enter Tryz.func224, Tryz.ntmps224
  go_wp2
  go_ret
  exact ⟨rfl, Below.refl _ _⟩

theorem dig1 (w : World) : Calls Tryz.prog 224 #[.int .i64 1] w fun e w' => e = .returned (.string ⟨#[49]⟩) ∧ Below w.heap.size w w' := by
  have hc := fun W => conv1 W 49 49 rfl
  go_enter Tryz.func224, Tryz.ntmps224
  go_wp2_with fail
  refine wp_loop_rounds 2 ?_
  repeat (rw [rounds_succ]; go_wp2_with fail)
  go_ret
  exact ⟨rfl, (Below.refl _ _).alloc (Nat.le_refl _) _⟩

theorem dig2 (w : World) : Calls Tryz.prog 224 #[.int .i64 2] w fun e w' => e = .returned (.string ⟨#[50]⟩) ∧ Below w.heap.size w w' := by
  have hc := fun W => conv1 W 50 50 rfl
  go_enter Tryz.func224, Tryz.ntmps224
  go_wp2_with fail
  refine wp_loop_rounds 2 ?_
  repeat (rw [rounds_succ]; go_wp2_with fail)
  go_ret
  exact ⟨rfl, (Below.refl _ _).alloc (Nat.le_refl _) _⟩

theorem dig3 (w : World) : Calls Tryz.prog 224 #[.int .i64 3] w fun e w' => e = .returned (.string ⟨#[51]⟩) ∧ Below w.heap.size w w' := by
  have hc := fun W => conv1 W 51 51 rfl
  go_enter Tryz.func224, Tryz.ntmps224
  go_wp2_with fail
  refine wp_loop_rounds 2 ?_
  repeat (rw [rounds_succ]; go_wp2_with fail)
  go_ret
  exact ⟨rfl, (Below.refl _ _).alloc (Nat.le_refl _) _⟩

theorem rtext_any (n : Int) (hlo : -9223372036854775808 ≤ n) (hhi : n ≤ 9223372036854775807) (w : World) :
    Calls Tryz.prog 145 #[.int .i64 n] w fun e w' => e = .returned (.string (textV n)) ∧ Below w.heap.size w w' := by
  rcases eight n with h | h | rfl | rfl | rfl | rfl | rfl | rfl | rfl | rfl | rfl
  · have hx : textV n = ⟨#[]⟩ ∧ clV n = 0 ∧ clB n = false := by unfold textV clV clB; rw [if_neg (by omega), if_neg (by omega)]; exact ⟨rfl, rfl, by simp; omega⟩
    rw [hx.1]
    have HC := Lib.hid (rcl_any n hlo hhi w)
    rw [hx.2.1, hx.2.2] at HC
    have h3 : (n == 0) = false := by simp; omega
    clear hx h hlo hhi
    go_enter Tryz.func145, Tryz.ntmps145
    go_wp2_with (go_at_call 223; refine HC.out.mono ?_; rintro e w' ⟨rfl, rfl⟩)
    go_ret
    exact ⟨rfl, Below.refl _ _⟩
  · have hx : textV n = ⟨#[]⟩ ∧ clV n = 0 ∧ clB n = false := by unfold textV clV clB; rw [if_neg (by omega), if_neg (by omega)]; exact ⟨rfl, rfl, by simp; omega⟩
    rw [hx.1]
    have HC := Lib.hid (rcl_any n hlo hhi w)
    rw [hx.2.1, hx.2.2] at HC
    have h3 : (n == 0) = false := by simp; omega
    clear hx h hlo hhi
    go_enter Tryz.func145, Tryz.ntmps145
    go_wp2_with (go_at_call 223; refine HC.out.mono ?_; rintro e w' ⟨rfl, rfl⟩)
    go_ret
    exact ⟨rfl, Below.refl _ _⟩
  · go_enter Tryz.func145, Tryz.ntmps145
    go_wp2
    go_ret
    exact ⟨rfl, Below.refl _ _⟩
  · go_enter Tryz.func145, Tryz.ntmps145
    go_wp2_with (first | (go_at_call 224; refine (dig0 _).mono ?_; rintro e w1 ⟨rfl, hb⟩) | go_in)
    go_ret
    exact ⟨rfl, hb⟩
  · go_enter Tryz.func145, Tryz.ntmps145
    go_wp2_with (first | (go_at_call 224; refine (dig0 _).mono ?_; rintro e w1 ⟨rfl, hb⟩) | go_in)
    go_ret
    exact ⟨rfl, hb⟩
  · go_enter Tryz.func145, Tryz.ntmps145
    go_wp2_with (first | (go_at_call 224; refine (dig1 _).mono ?_; rintro e w1 ⟨rfl, hb⟩) | go_in)
    go_ret
    exact ⟨rfl, hb⟩
  · go_enter Tryz.func145, Tryz.ntmps145
    go_wp2_with (first | (go_at_call 224; refine (dig1 _).mono ?_; rintro e w1 ⟨rfl, hb⟩) | go_in)
    go_ret
    exact ⟨rfl, hb⟩
  · go_enter Tryz.func145, Tryz.ntmps145
    go_wp2_with (first | (go_at_call 224; refine (dig2 _).mono ?_; rintro e w1 ⟨rfl, hb⟩) | go_in)
    go_ret
    exact ⟨rfl, hb⟩
  · go_enter Tryz.func145, Tryz.ntmps145
    go_wp2_with (first | (go_at_call 224; refine (dig2 _).mono ?_; rintro e w1 ⟨rfl, hb⟩) | go_in)
    go_ret
    exact ⟨rfl, hb⟩
  · go_enter Tryz.func145, Tryz.ntmps145
    go_wp2_with (first | (go_at_call 224; refine (dig3 _).mono ?_; rintro e w1 ⟨rfl, hb⟩) | go_in)
    go_ret
    exact ⟨rfl, hb⟩
  · go_enter Tryz.func145, Tryz.ntmps145
    go_wp2_with (first | (go_at_call 224; refine (dig3 _).mono ?_; rintro e w1 ⟨rfl, hb⟩) | go_in)
    go_ret
    exact ⟨rfl, hb⟩
end Go.Proofs.YtbknmapkdjmcjaaGreatDoor.Si
