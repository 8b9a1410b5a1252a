/-
  WALKS of layer 5: the texts of the kinds; where they lie; the document's own digits of one place.
-/
import Derived.Test.YthkbdclnnpcoiaaDoorSg
import Derived.Lib.LaidTab
import Derived.Laws.IdiomStrings
namespace Go.Proofs.YthkbdclnnpcoiaaDoor.Si
open Go.RowKit

/-- The texts, by kinds. -/
def txs : List (List UInt8) := [[110], [102, 48], [102, 48, 114], [102, 49], [102, 49, 114], [102, 50], [102, 50, 114], [102, 51], [102, 51, 114]]
def txB (i : Nat) : ByteArray := ⟨(txs.getD i []).toArray⟩
def textV (n : Int) : ByteArray := if 0 ≤ n ∧ n ≤ 8 then txB n.toNat else ⟨#[]⟩

/-- The texts lie in the world as the program's text lays them. -/
def Txs (w : World) : Prop := ∀ i : Nat, i < 9 → w.cell? ⟨0, i, none⟩ = some (.string (txB i))

theorem Txs.below {w w' : World} (h : Txs w) (hb : Below w.heap.size w w') : Txs w' := fun i hi =>
  (hb.cell (p := ⟨0, i, none⟩) (World.block_lt_of_cell? w _ (h i hi))).trans (h i hi)

theorem text_any (n : Int) (w : World) (h : Txs w) : Calls Tryd.prog 22 #[.int .i64 n] w fun e w' => e = .returned (.string (textV n)) ∧ w = w' := by
  have c0 := h 0 (by decide)
  have c1 := h 1 (by decide)
  have c2 := h 2 (by decide)
  have c3 := h 3 (by decide)
  have c4 := h 4 (by decide)
  have c5 := h 5 (by decide)
  have c6 := h 6 (by decide)
  have c7 := h 7 (by decide)
  have c8 := h 8 (by decide)
  clear h
  rcases eight n with h | h | rfl | rfl | rfl | rfl | rfl | rfl | rfl | rfl | rfl
  · have hx : textV n = ⟨#[]⟩ := by unfold textV; rw [if_neg (by omega)]
    rw [hx]
    clear hx c0 c1 c2 c3 c4 c5 c6 c7 c8
    have h1 : ¬ 0 ≤ n := by omega
    go_enter Tryd.func22, Tryd.ntmps22
    go_wp2
    all_goals go_ret
    all_goals exact ⟨rfl, rfl⟩
  · have hx : textV n = ⟨#[]⟩ := by unfold textV; rw [if_neg (by omega)]
    rw [hx]
    clear hx c0 c1 c2 c3 c4 c5 c6 c7 c8
    have h1 : ¬ n < 9 := by omega
    go_enter Tryd.func22, Tryd.ntmps22
    go_wp2
    all_goals go_ret
    all_goals exact ⟨rfl, rfl⟩
  all_goals
    go_enter Tryd.func22, Tryd.ntmps22
    go_wp2
    all_goals go_ret
    all_goals exact ⟨rfl, rfl⟩

theorem conv1 (w : World) (c : UInt8) (x : Int) (h : x = (c.toNat : Int)) :
    (convert 36 9 (.slice (some ⟨w.heap.size, 0, none⟩) 1 1)).run Tryd.prog (w.alloc (.cells #[.int .u8 x] 5)) = .ok (.string ⟨#[c]⟩) (w.alloc (.cells #[.int .u8 x] 5)) := by
  have := run_convert_bytes_back (P := Tryd.prog) (w.alloc (.cells #[.int .u8 x] 5)) 36 9 5 ⟨w.heap.size, 0, none⟩ 1 [c] Tryd.underlying36 Tryd.underlying5 Tryd.underlying9 (fun j hj => by
    obtain rfl : j = 0 := by simpa using hj
    subst h
    simp [Addr.add])
  exact this

theorem dig0 (w : World) : Calls Tryd.prog 57 #[.int .i64 0] w fun e w' => e = .returned (.string ⟨#[48]⟩) ∧ Below w.heap.size w w' := by
  go_enter Tryd.func57, Tryd.ntmps57
  go_wp2
  go_ret
  exact ⟨rfl, Below.refl _ _⟩

theorem dig1 (w : World) : Calls Tryd.prog 57 #[.int .i64 1] w fun e w' => e = .returned (.string ⟨#[49]⟩) ∧ Below w.heap.size w w' := by
  have hc := fun W => conv1 W 49 49 rfl
  go_enter Tryd.func57, Tryd.ntmps57
  go_wp2_with fail
  refine wp_loop_rounds 2 ?_
  repeat (rw [rounds_succ]; go_wp2_with fail)
  go_ret
  exact ⟨rfl, (Below.refl _ _).alloc (Nat.le_refl _) _⟩

theorem dig2 (w : World) : Calls Tryd.prog 57 #[.int .i64 2] w fun e w' => e = .returned (.string ⟨#[50]⟩) ∧ Below w.heap.size w w' := by
  have hc := fun W => conv1 W 50 50 rfl
  go_enter Tryd.func57, Tryd.ntmps57
  go_wp2_with fail
  refine wp_loop_rounds 2 ?_
  repeat (rw [rounds_succ]; go_wp2_with fail)
  go_ret
  exact ⟨rfl, (Below.refl _ _).alloc (Nat.le_refl _) _⟩

theorem dig3 (w : World) : Calls Tryd.prog 57 #[.int .i64 3] w fun e w' => e = .returned (.string ⟨#[51]⟩) ∧ Below w.heap.size w w' := by
  have hc := fun W => conv1 W 51 51 rfl
  go_enter Tryd.func57, Tryd.ntmps57
  go_wp2_with fail
  refine wp_loop_rounds 2 ?_
  repeat (rw [rounds_succ]; go_wp2_with fail)
  go_ret
  exact ⟨rfl, (Below.refl _ _).alloc (Nat.le_refl _) _⟩

theorem rtext_any (n : Int) (hlo : -9223372036854775808 ≤ n) (hhi : n ≤ 9223372036854775807) (w : World) :
    Calls Tryd.prog 27 #[.int .i64 n] w fun e w' => e = .returned (.string (textV n)) ∧ Below w.heap.size w w' := by
  rcases eight n with h | h | rfl | rfl | rfl | rfl | rfl | rfl | rfl | rfl | rfl
  · have hx : textV n = ⟨#[]⟩ ∧ clV n = 0 ∧ clB n = false := by unfold textV clV clB; rw [if_neg (by omega), if_neg (by omega)]; exact ⟨rfl, rfl, by simp; omega⟩
    rw [hx.1]
    have HC := Lib.hid (rcl_any n hlo hhi w)
    rw [hx.2.1, hx.2.2] at HC
    have h3 : (n == 0) = false := by simp; omega
    clear hx h hlo hhi
    go_enter Tryd.func27, Tryd.ntmps27
    go_wp2_with (go_at_call 56; refine HC.out.mono ?_; rintro e w' ⟨rfl, rfl⟩)
    go_ret
    exact ⟨rfl, Below.refl _ _⟩
  · have hx : textV n = ⟨#[]⟩ ∧ clV n = 0 ∧ clB n = false := by unfold textV clV clB; rw [if_neg (by omega), if_neg (by omega)]; exact ⟨rfl, rfl, by simp; omega⟩
    rw [hx.1]
    have HC := Lib.hid (rcl_any n hlo hhi w)
    rw [hx.2.1, hx.2.2] at HC
    have h3 : (n == 0) = false := by simp; omega
    clear hx h hlo hhi
    go_enter Tryd.func27, Tryd.ntmps27
    go_wp2_with (go_at_call 56; refine HC.out.mono ?_; rintro e w' ⟨rfl, rfl⟩)
    go_ret
    exact ⟨rfl, Below.refl _ _⟩
  · go_enter Tryd.func27, Tryd.ntmps27
    go_wp2
    go_ret
    exact ⟨rfl, Below.refl _ _⟩
  · go_enter Tryd.func27, Tryd.ntmps27
    go_wp2_with (first | (go_at_call 57; refine (dig0 _).mono ?_; rintro e w1 ⟨rfl, hb⟩) | go_in)
    go_ret
    exact ⟨rfl, hb⟩
  · go_enter Tryd.func27, Tryd.ntmps27
    go_wp2_with (first | (go_at_call 57; refine (dig0 _).mono ?_; rintro e w1 ⟨rfl, hb⟩) | go_in)
    go_ret
    exact ⟨rfl, hb⟩
  · go_enter Tryd.func27, Tryd.ntmps27
    go_wp2_with (first | (go_at_call 57; refine (dig1 _).mono ?_; rintro e w1 ⟨rfl, hb⟩) | go_in)
    go_ret
    exact ⟨rfl, hb⟩
  · go_enter Tryd.func27, Tryd.ntmps27
    go_wp2_with (first | (go_at_call 57; refine (dig1 _).mono ?_; rintro e w1 ⟨rfl, hb⟩) | go_in)
    go_ret
    exact ⟨rfl, hb⟩
  · go_enter Tryd.func27, Tryd.ntmps27
    go_wp2_with (first | (go_at_call 57; refine (dig2 _).mono ?_; rintro e w1 ⟨rfl, hb⟩) | go_in)
    go_ret
    exact ⟨rfl, hb⟩
  · go_enter Tryd.func27, Tryd.ntmps27
    go_wp2_with (first | (go_at_call 57; refine (dig2 _).mono ?_; rintro e w1 ⟨rfl, hb⟩) | go_in)
    go_ret
    exact ⟨rfl, hb⟩
  · go_enter Tryd.func27, Tryd.ntmps27
    go_wp2_with (first | (go_at_call 57; refine (dig3 _).mono ?_; rintro e w1 ⟨rfl, hb⟩) | go_in)
    go_ret
    exact ⟨rfl, hb⟩
  · go_enter Tryd.func27, Tryd.ntmps27
    go_wp2_with (first | (go_at_call 57; refine (dig3 _).mono ?_; rintro e w1 ⟨rfl, hb⟩) | go_in)
    go_ret
    exact ⟨rfl, hb⟩
end Go.Proofs.YthkbdclnnpcoiaaDoor.Si
