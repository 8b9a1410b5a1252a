/-
  WALKS of layer 7: the tables; Name, Own, Shape, Need, Ends, and the document's own.
-/
import Derived.Test.YtbknmapkdjmcjaaGreatDoorGb
import Derived.WalkKit
import Derived.ProofKit
import Derived.WalkSpells
import Derived.WalkLawsBesides
import Derived.Lib.Hide
import Derived.BigQuiet
import Derived.Deep.QuietTactic
import Derived.LoopTactic
import Derived.Below
import Derived.Lib.LaidTab
import Derived.Laws.IdiomStrings
namespace Go.Proofs.YtbknmapkdjmcjaaGreatDoor.By
open Go.RowKit

/-- The names, and the shapes, by the operations' numbers. -/
def nms : List (List UInt8) := [[], [110, 111, 112], [115, 101, 116], [109, 111, 118, 101], [97, 100, 100], [115, 117, 98], [109, 117, 108], [100, 105, 118], [109, 111, 100], [108, 101, 115, 115], [115, 97, 109, 101], [106, 117, 109, 112], [122, 101, 114, 111], [105, 110], [111, 117, 116], [108, 111, 97, 100], [115, 116, 111, 114, 101], [102, 117, 110, 99], [112, 105, 99, 107], [99, 97, 108, 108], [118, 105, 97], [100, 101, 102, 101, 114], [112, 97, 110, 105, 99], [114, 101, 99, 111, 118, 101, 114], [114, 101, 116, 117, 114, 110], [99, 104, 101, 99, 107], [101, 110, 116, 101, 114], [98, 111, 116, 116, 111, 109], [100, 114, 105, 118, 101, 114]]
def shs : List (List UInt8) := [[], [45, 45, 45, 45], [119, 45, 45, 110], [119, 114, 45, 45], [119, 114, 114, 45], [119, 114, 114, 45], [119, 114, 114, 45], [119, 114, 114, 45], [119, 114, 114, 45], [119, 114, 114, 45], [119, 114, 114, 45], [45, 45, 45, 116], [114, 45, 45, 116], [119, 45, 45, 45], [114, 45, 45, 45], [119, 114, 45, 45], [114, 114, 45, 45], [103, 45, 45, 45], [103, 114, 45, 45], [99, 45, 45, 45], [99, 102, 107, 45], [100, 45, 45, 45], [114, 45, 45, 45], [119, 119, 45, 45], [118, 45, 45, 45]]
def nmB (i : Nat) : ByteArray := ⟨(nms.getD i []).toArray⟩
def shB (i : Nat) : ByteArray := ⟨(shs.getD i []).toArray⟩
def nmV (n : Int) : ByteArray := if 1 ≤ n ∧ n ≤ 28 then nmB n.toNat else ⟨#[]⟩
def shV (n : Int) : ByteArray := if 1 ≤ n ∧ n ≤ 24 then shB n.toNat else ⟨#[]⟩
def ownV (n : Int) : Bool := decide (1 ≤ n ∧ n ≤ 24)
def ndV (n : Int) : Int := if n = 19 then 1 else if n = 17 then 2 else if n = 15 ∨ n = 16 then 3 else if n = 18 then 4 else if n = 21 then 5 else 0
def enV (n : Int) : Bool := decide (n = 11 ∨ n = 22 ∨ n = 24)

/-- The texts lie in the world as the program's text lays them. -/
def Txs (w : World) : Prop := (∀ i : Nat, i < 29 → w.cell? ⟨2, i, none⟩ = some (.string (nmB i))) ∧ (∀ i : Nat, i < 25 → w.cell? ⟨0, i, none⟩ = some (.string (shB i)))

theorem Txs.below {w w' : World} (h : Txs w) (hb : Below w.heap.size w w') : Txs w' :=
  ⟨fun i hi => (hb.cell (p := ⟨2, i, none⟩) (World.block_lt_of_cell? w _ (h.1 i hi))).trans (h.1 i hi),
   fun i hi => (hb.cell (p := ⟨0, i, none⟩) (World.block_lt_of_cell? w _ (h.2 i hi))).trans (h.2 i hi)⟩

/-- A number below, a number above, or one of those between. -/
theorem all28 (n : Int) : n < 1 ∨ 28 < n ∨ n = 1 ∨ n = 2 ∨ n = 3 ∨ n = 4 ∨ n = 5 ∨ n = 6 ∨ n = 7 ∨ n = 8 ∨ n = 9 ∨ n = 10 ∨ n = 11 ∨ n = 12 ∨ n = 13 ∨ n = 14 ∨ n = 15 ∨ n = 16 ∨ n = 17 ∨ n = 18 ∨ n = 19 ∨ n = 20 ∨ n = 21 ∨ n = 22 ∨ n = 23 ∨ n = 24 ∨ n = 25 ∨ n = 26 ∨ n = 27 ∨ n = 28 := by omega

theorem own_any (n : Int) (w : World) : Calls Tryz.prog 134 #[.int .i64 n] w fun e w' => e = .returned (.bool (ownV n)) ∧ w = w' := by
  have hb : (decide (1 ≤ n) = false ∧ ownV n = false) ∨ (decide (1 ≤ n) = true ∧ decide (n ≤ 24) = false ∧ ownV n = false) ∨ (decide (1 ≤ n) = true ∧ decide (n ≤ 24) = true ∧ ownV n = true) := by
    unfold ownV
    by_cases h1 : 1 ≤ n <;> by_cases h2 : n ≤ 24 <;> simp [h1, h2]
  rcases hb with ⟨h1, h2⟩ | ⟨h1, h3, h2⟩ | ⟨h1, h3, h2⟩
  all_goals rw [h2]
  all_goals clear h2
  all_goals
    go_enter Tryz.func134, Tryz.ntmps134
    go_wp2
    all_goals go_ret
    all_goals exact ⟨rfl, rfl⟩

theorem rown_any (n : Int) (w : World) : Calls Tryz.prog 148 #[.int .i64 n] w fun e w' => e = .returned (.bool (ownV n)) ∧ w = w' := by
  have hb : (decide (1 ≤ n) = false ∧ ownV n = false) ∨ (decide (1 ≤ n) = true ∧ decide (n ≤ 24) = false ∧ ownV n = false) ∨ (decide (1 ≤ n) = true ∧ decide (n ≤ 24) = true ∧ ownV n = true) := by
    unfold ownV
    by_cases h1 : 1 ≤ n <;> by_cases h2 : n ≤ 24 <;> simp [h1, h2]
  rcases hb with ⟨h1, h2⟩ | ⟨h1, h3, h2⟩ | ⟨h1, h3, h2⟩
  all_goals rw [h2]
  all_goals clear h2
  all_goals
    go_enter Tryz.func148, Tryz.ntmps148
    go_wp2
    all_goals go_ret
    all_goals exact ⟨rfl, rfl⟩

theorem name_any (n : Int) (w : World) (h : Txs w) : Calls Tryz.prog 217 #[.int .i64 n] w fun e w' => e = .returned (.string (nmV n)) ∧ w = w' := by
  have hb : (decide (n < 0) = true ∧ nmV n = ⟨#[]⟩) ∨ (decide (n < 0) = false ∧ decide (29 ≤ n) = true ∧ nmV n = ⟨#[]⟩) ∨ (0 ≤ n ∧ n < 29 ∧ nmV n = nmB n.toNat) := by
    unfold nmV
    by_cases h1 : n < 0
    · left; exact ⟨by simpa using h1, by rw [if_neg (by omega)]⟩
    · by_cases h2 : 29 ≤ n
      · right; left; exact ⟨by simpa using h1, by simpa using h2, by rw [if_neg (by omega)]⟩
      · right; right
        refine ⟨by omega, by omega, ?_⟩
        by_cases h3 : n = 0
        · subst h3; rw [if_neg (by omega)]; rfl
        · rw [if_pos (by omega)]
  rcases hb with ⟨h1, h2⟩ | ⟨h1, h3, h2⟩ | ⟨h1, h3, h2⟩
  all_goals rw [h2]
  all_goals clear h2
  · go_enter Tryz.func217, Tryz.ntmps217
    go_wp2
    all_goals go_ret
    all_goals exact ⟨rfl, rfl⟩
  · go_enter Tryz.func217, Tryz.ntmps217
    go_wp2
    all_goals go_ret
    all_goals exact ⟨rfl, rfl⟩
  · have hc := h.1 n.toNat (by omega)
    have hd : decide (n < 0) = false := by simp; omega
    have hd2 : decide (29 ≤ n) = false := by simp; omega
    clear h
    go_enter Tryz.func217, Tryz.ntmps217
    go_wp2
    all_goals go_ret
    all_goals exact ⟨rfl, rfl⟩

theorem shape_any (n : Int) (w : World) (h : Txs w) : Calls Tryz.prog 167 #[.int .i64 n] w fun e w' => e = .returned (.string (shV n)) ∧ w = w' := by
  have HO := Lib.hid (own_any n)
  by_cases hi : 1 ≤ n ∧ n ≤ 24
  · have hx : ownV n = true ∧ shV n = shB n.toNat := by unfold ownV shV; rw [if_pos hi]; exact ⟨by simpa using hi, rfl⟩
    rw [hx.1] at HO
    rw [hx.2]
    have hc := h.2 n.toNat (by omega)
    have h1 : 0 ≤ n := by omega
    have h3 : n < 25 := by omega
    clear h hx hi
    go_enter Tryz.func167, Tryz.ntmps167
    go_wp2_with (go_at_call 134; refine (HO.out _).mono ?_; rintro e w' ⟨rfl, rfl⟩)
    all_goals go_ret
    all_goals exact ⟨rfl, rfl⟩
  · have hx : ownV n = false ∧ shV n = ⟨#[]⟩ := by unfold ownV shV; rw [if_neg hi]; exact ⟨by simpa using hi, rfl⟩
    rw [hx.1] at HO
    rw [hx.2]
    clear h hx hi
    go_enter Tryz.func167, Tryz.ntmps167
    go_wp2_with (go_at_call 134; refine (HO.out _).mono ?_; rintro e w' ⟨rfl, rfl⟩)
    all_goals go_ret
    all_goals exact ⟨rfl, rfl⟩

theorem need_any (n : Int) (w : World) : Calls Tryz.prog 95 #[.int .i64 n] w fun e w' => e = .returned (.int .i64 (ndV n)) ∧ w = w' := by
  by_cases hh : n = 15 ∨ n = 16 ∨ n = 17 ∨ n = 18 ∨ n = 19 ∨ n = 21
  · rcases hh with rfl | rfl | rfl | rfl | rfl | rfl
    all_goals
      go_enter Tryz.func95, Tryz.ntmps95
      go_wp2
      all_goals go_ret
      all_goals exact ⟨rfl, rfl⟩
  · have hx : ndV n = 0 := by unfold ndV; first | (rw [decide_eq_false hh]) | (repeat rw [if_neg (by omega)])
    rw [hx]
    clear hx
    have k15 : (n == 15) = false := by simp; omega
    have k16 : (n == 16) = false := by simp; omega
    have k17 : (n == 17) = false := by simp; omega
    have k18 : (n == 18) = false := by simp; omega
    have k19 : (n == 19) = false := by simp; omega
    have k21 : (n == 21) = false := by simp; omega
    clear hh
    go_enter Tryz.func95, Tryz.ntmps95
    go_wp2
    all_goals go_ret
    all_goals exact ⟨rfl, rfl⟩

theorem ends_any (n : Int) (w : World) : Calls Tryz.prog 331 #[.int .i64 n] w fun e w' => e = .returned (.bool (enV n)) ∧ w = w' := by
  by_cases hh : n = 11 ∨ n = 22 ∨ n = 24
  · rcases hh with rfl | rfl | rfl
    all_goals
      go_enter Tryz.func331, Tryz.ntmps331
      go_wp2
      all_goals go_ret
      all_goals exact ⟨rfl, rfl⟩
  · have hx : enV n = false := by unfold enV; first | (rw [decide_eq_false hh]) | (repeat rw [if_neg (by omega)])
    rw [hx]
    clear hx
    have k11 : (n == 11) = false := by simp; omega
    have k22 : (n == 22) = false := by simp; omega
    have k24 : (n == 24) = false := by simp; omega
    clear hh
    go_enter Tryz.func331, Tryz.ntmps331
    go_wp2
    all_goals go_ret
    all_goals exact ⟨rfl, rfl⟩

def nmA : Array Value := #[.string ⟨#[110, 111, 112]⟩, .string ⟨#[115, 101, 116]⟩, .string ⟨#[109, 111, 118, 101]⟩, .string ⟨#[97, 100, 100]⟩, .string ⟨#[115, 117, 98]⟩, .string ⟨#[109, 117, 108]⟩, .string ⟨#[100, 105, 118]⟩, .string ⟨#[109, 111, 100]⟩, .string ⟨#[108, 101, 115, 115]⟩, .string ⟨#[115, 97, 109, 101]⟩, .string ⟨#[106, 117, 109, 112]⟩, .string ⟨#[122, 101, 114, 111]⟩, .string ⟨#[105, 110]⟩, .string ⟨#[111, 117, 116]⟩, .string ⟨#[108, 111, 97, 100]⟩, .string ⟨#[115, 116, 111, 114, 101]⟩, .string ⟨#[102, 117, 110, 99]⟩, .string ⟨#[112, 105, 99, 107]⟩, .string ⟨#[99, 97, 108, 108]⟩, .string ⟨#[118, 105, 97]⟩, .string ⟨#[100, 101, 102, 101, 114]⟩, .string ⟨#[112, 97, 110, 105, 99]⟩, .string ⟨#[114, 101, 99, 111, 118, 101, 114]⟩, .string ⟨#[114, 101, 116, 117, 114, 110]⟩, .string ⟨#[99, 104, 101, 99, 107]⟩, .string ⟨#[101, 110, 116, 101, 114]⟩, .string ⟨#[98, 111, 116, 116, 111, 109]⟩, .string ⟨#[100, 114, 105, 118, 101, 114]⟩]

theorem rnames_any (w : World) : Calls Tryz.prog 234 #[] w fun e w' => e = .returned (.slice (some ⟨w.heap.size, 0, none⟩) 28 28) ∧ w' = w.alloc (.cells nmA 9) := by
  go_enter Tryz.func234, Tryz.ntmps234
  go_wp2
  go_ret
  exact ⟨rfl, rfl⟩

theorem nmA_at (i : Nat) (h : i < 28) : nmA[i]? = some (.string (nmB (i + 1))) := by
  have : i = 0 ∨ i = 1 ∨ i = 2 ∨ i = 3 ∨ i = 4 ∨ i = 5 ∨ i = 6 ∨ i = 7 ∨ i = 8 ∨ i = 9 ∨ i = 10 ∨ i = 11 ∨ i = 12 ∨ i = 13 ∨ i = 14 ∨ i = 15 ∨ i = 16 ∨ i = 17 ∨ i = 18 ∨ i = 19 ∨ i = 20 ∨ i = 21 ∨ i = 22 ∨ i = 23 ∨ i = 24 ∨ i = 25 ∨ i = 26 ∨ i = 27 := by omega
  rcases this with rfl | rfl | rfl | rfl | rfl | rfl | rfl | rfl | rfl | rfl | rfl | rfl | rfl | rfl | rfl | rfl | rfl | rfl | rfl | rfl | rfl | rfl | rfl | rfl | rfl | rfl | rfl | rfl
  all_goals rfl

theorem rname_any (n : Int) (hlo : -9223372036854775808 ≤ n) (hhi : n ≤ 9223372036854775807) (w : World) :
    Calls Tryz.prog 173 #[.int .i64 n] w fun e w' => e = .returned (.string (nmV n)) ∧ Below w.heap.size w w' := by
  have HN := Lib.hid rnames_any
  have hb : (decide (n < 1) = true ∧ nmV n = ⟨#[]⟩) ∨ (decide (n < 1) = false ∧ decide (28 < n) = true ∧ nmV n = ⟨#[]⟩) ∨ (0 ≤ n - 1 ∧ n - 1 < 28 ∧ nmV n = nmB n.toNat) := by
    unfold nmV
    by_cases h1 : n < 1
    · left; exact ⟨by simpa using h1, by rw [if_neg (by omega)]⟩
    · by_cases h2 : 28 < n
      · right; left; exact ⟨by simpa using h1, by simpa using h2, by rw [if_neg (by omega)]⟩
      · right; right; exact ⟨by omega, by omega, by rw [if_pos (by omega)]⟩
  rcases hb with ⟨h1, h2⟩ | ⟨h1, h3, h2⟩ | ⟨h1, h3, h2⟩
  all_goals rw [h2]
  all_goals clear h2
  · clear hlo hhi
    go_enter Tryz.func173, Tryz.ntmps173
    go_wp2_with (go_at_call 234; refine (HN.out _).mono ?_; rintro e w' ⟨rfl, rfl⟩)
    all_goals go_ret
    all_goals exact ⟨rfl, (Below.refl _ _).alloc (Nat.le_refl _) _⟩
  · clear hlo hhi
    go_enter Tryz.func173, Tryz.ntmps173
    go_wp2_with (go_at_call 234; refine (HN.out _).mono ?_; rintro e w' ⟨rfl, rfl⟩)
    all_goals go_ret
    all_goals exact ⟨rfl, (Below.refl _ _).alloc (Nat.le_refl _) _⟩
  · have hd : decide (n < 1) = false := by simp; omega
    have hd2 : decide (28 < n) = false := by simp; omega
    have hc : (w.alloc (.cells nmA 9)).cell? ⟨w.heap.size, n.toNat - 1, none⟩ = some (.string (nmB n.toNat)) := by
      rw [cell_of_row _ w.heap.size _ nmA 9 (0, 0) (heap_alloc_new w _), nmA_at _ (by omega)]
      congr 3
      omega
    go_enter Tryz.func173, Tryz.ntmps173
    go_wp2_with (go_at_call 234; refine (HN.out _).mono ?_; rintro e w' ⟨rfl, rfl⟩)
    all_goals go_ret
    all_goals exact ⟨rfl, (Below.refl _ _).alloc (Nat.le_refl _) _⟩

end Go.Proofs.YtbknmapkdjmcjaaGreatDoor.By
