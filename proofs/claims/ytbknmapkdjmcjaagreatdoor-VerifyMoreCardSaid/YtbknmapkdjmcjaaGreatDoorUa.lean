/-
  WALKS of layer 14: code in memory; isPlace, Ends, what comes behind an instruction.
-/
import Derived.Test.YtbknmapkdjmcjaaGreatDoorGf
import Derived.Test.YtbknmapkdjmcjaaGreatDoorWa
import Derived.Test.YtbknmapkdjmcjaaGreatDoorUb
namespace Go.Proofs.YtbknmapkdjmcjaaGreatDoor.By
open Go.RowKit
open Mem Gm Rf

/-- Code in memory: O are the operations, T the numbers that they have. -/
def Cd (w : World) (B : Nat) (A : Option Addr) (n c : Nat) (O T : Nat → Int) : Prop :=
  n ≤ c ∧ c ≤ maxLen ∧ ∀ i, i < n → ∃ ad x y z, A = some ad ∧ ad.block < B ∧ ∀ j u, [Value.int .i64 (O i), .int .i64 x, .int .i64 y, .int .i64 z, .int .i64 (T i)][j]? = some u → w.cell? ((ad.add (i * 5)).add j) = some u

theorem Cd.keep {w w' : World} {B n c : Nat} {A : Option Addr} {O T : Nat → Int} (h : Cd w B A n c O T) (hk : ∀ p : Addr, p.block < B → w'.cell? p = w.cell? p) : Cd w' B A n c O T :=
  ⟨h.1, h.2.1, fun i hi => by
    obtain ⟨ad, x, y, z, e, hb, hc⟩ := h.2.2 i hi
    exact ⟨ad, x, y, z, e, hb, fun j u hu => (hk _ (by rw [add_block, add_block]; exact hb)).trans (hc j u hu)⟩⟩

theorem Cd.below {w w' : World} {B n c : Nat} {A : Option Addr} {O T : Nat → Int} (h : Cd w B A n c O T) (hb : Below B w w') : Cd w' B A n c O T := h.keep fun _ hp => hb.cell hp

theorem Cd.more {w : World} {B B' n c : Nat} {A : Option Addr} {O T : Nat → Int} (h : Cd w B A n c O T) (hB : B ≤ B') : Cd w B' A n c O T :=
  ⟨h.1, h.2.1, fun i hi => by
    obtain ⟨ad, x, y, z, e, hb, hc⟩ := h.2.2 i hi
    exact ⟨ad, x, y, z, e, by omega, hc⟩⟩

theorem Cd.less {w : World} {B n m c : Nat} {A : Option Addr} {O T : Nat → Int} (h : Cd w B A n c O T) (hm : m ≤ n) : Cd w B A m c O T :=
  ⟨Nat.le_trans hm h.1, h.2.1, fun i hi => h.2.2 i (by omega)⟩

/-- An instruction's cells, at the addresses that the walk reckons. -/
theorem Cd.at_ {w : World} {B n c : Nat} {A : Option Addr} {O T : Nat → Int} (h : Cd w B A n c O T) {i : Nat} (hi : i < n) :
    ∃ ad x y z, A = some ad ∧ ad.block < B ∧ w.cell? (ad.add (i * 5)) = some (.int .i64 (O i)) ∧ w.cell? ⟨(ad.add (i * 5)).block, (ad.add (i * 5)).off + 1, none⟩ = some (.int .i64 x) ∧ w.cell? ⟨(ad.add (i * 5)).block, (ad.add (i * 5)).off + 2, none⟩ = some (.int .i64 y) ∧ w.cell? ⟨(ad.add (i * 5)).block, (ad.add (i * 5)).off + 3, none⟩ = some (.int .i64 z) ∧ w.cell? ⟨(ad.add (i * 5)).block, (ad.add (i * 5)).off + 4, none⟩ = some (.int .i64 (T i)) := by
  obtain ⟨ad, x, y, z, e, hb, hc⟩ := h.2.2 i hi
  have h0 := hc 0 _ rfl
  have h1 := hc 1 _ rfl
  have h2 := hc 2 _ rfl
  have h3 := hc 3 _ rfl
  have h4 := hc 4 _ rfl
  rw [add_field _ 1 (by omega)] at h1
  rw [add_field _ 2 (by omega)] at h2
  rw [add_field _ 3 (by omega)] at h3
  rw [add_field _ 4 (by omega)] at h4
  exact ⟨ad, x, y, z, e, hb, h0, h1, h2, h3, h4⟩

theorem opEnds_any (n : Int) (w : World) : Calls Tryz.prog 331 #[.int .i64 n] w fun e w' => e = .returned (.bool (enV n)) ∧ w = w' := by
  by_cases hh : n = 11 ∨ n = 22 ∨ n = 24
  · rcases hh with rfl | rfl | rfl
    all_goals
      go_enter Tryz.func331, Tryz.ntmps331
      go_wp2
      all_goals go_ret
      all_goals exact ⟨rfl, rfl⟩
  · have hx : enV n = false := by unfold enV; rw [decide_eq_false hh]
    rw [hx]
    clear hx
    have k11 : (n == 11) = false := by simp; omega
    have k22 : (n == 22) = false := by simp; omega
    have k24 : (n == 24) = false := by simp; omega
    clear hh
    go_enter Tryz.func331, Tryz.ntmps331
    go_wp2
    all_goals go_ret
    all_goals exact ⟨rfl, rfl⟩

theorem fplace_any (A : Option Addr) (n c : Nat) (p : Int) (w : World) : Calls Tryz.prog 215 #[.slice A n c, .int .i64 p] w fun e w' => e = .returned (.bool (decide (0 ≤ p) && decide (p < n))) ∧ w = w' := by
  by_cases h0 : 0 ≤ p
  · obtain ⟨bl, hbl⟩ : ∃ bl, decide (p < (n : Int)) = bl := ⟨_, rfl⟩
    have h1 : decide (0 ≤ p) = true := by simpa using h0
    rw [hbl, h1]
    go_enter Tryz.func215, Tryz.ntmps215
    go_wp2_with fail
    go_ret
    exact ⟨by simp, rfl⟩
  · have h1 : decide (0 ≤ p) = false := by simpa using h0
    rw [h1]
    clear h0
    go_enter Tryz.func215, Tryz.ntmps215
    go_wp2_with fail
    go_ret
    exact ⟨by simp, rfl⟩

/-- What is kept: a list of the call's own, in a variable. -/
def St (w : World) (pb base : Nat) (l : List Int) : Prop := ∃ v, Blk w pb 22 #[v] ∧ w.ownsRow base 3 1 v l.length (ints l)

theorem ints_snoc (l : List Int) (x : Int) : ints l ++ [.int .i64 x] = ints (l ++ [x]) := by simp [ints]

theorem own_form {w : World} {base n : Nat} {v : Value} {xs : List Value} {e : TypeId} {k : Nat} (h : w.ownsRow base e k v n xs) : ∃ A c, v = .slice A n c := by
  rcases h.2 with ⟨rfl, rfl⟩ | ⟨g, cap, cur, rfl, _⟩
  · exact ⟨none, 0, rfl⟩
  · exact ⟨_, cap, rfl⟩

set_option maxRecDepth 100000 in
theorem keep_any (w : World) (pb base : Nat) (x : Int) (l : List Int) (hs : St w pb base l) (hpb : pb < base) (hb : base ≤ w.heap.size) (hl : l.length ≤ 1000) :
    Calls Tryz.prog 311 #[.int .i64 x, .pointer (some ⟨pb, 0, none⟩)] w fun e w' => e = .returned (.tuple #[]) ∧ St w' pb base (l ++ [x]) ∧ Keeps (fun k => k < base ∧ k ≠ pb) w w' := by
  obtain ⟨i0, hi, hz0, hz1, hz2⟩ := info_parts infoI
  obtain ⟨v, hB, hown⟩ := hs
  have hcell : w.cell? ⟨pb, 0, none⟩ = some v := by rw [hB.cell]; rfl
  have hplt := hB.lt
  have hnew : ∀ j u, [Value.int .i64 x][j]? = some u → (w.alloc (.cells #[.int .i64 x] 3)).cell? ((⟨w.heap.size, 0, none⟩ : Addr).add j) = some u := fun j u hu => by
    rw [add_plain, Nat.zero_add, (Blk.new w _ _).cell]; simpa using hu
  have HO := Lib.hid (own_keep (w' := w.alloc (.cells #[.int .i64 x] 3)) hown fun g _ hg _ => Below.heap_alloc _ _ _ hg)
  have HW := Lib.hid hnew
  have HB := Lib.hid (hB.alloc (.cells #[.int .i64 x] 3))
  have HB1 := Lib.hid (show l.length + 1 ≤ maxLen by unfold maxLen; omega)
  have HB2 := Lib.hid (show (l.length + 1) * 8 ≤ 140737488355328 by omega)
  have HB3 := Lib.hid (show base ≤ (w.alloc (.cells #[.int .i64 x] 3)).heap.size by simp; omega)
  have HPB := Lib.hid (show ∀ w', (w.alloc (.cells #[.int .i64 x] 3)).grownBy w' v.ownBlock → Blk w' pb 22 #[v] from fun w' h => (h.block pb HB.out.lt (fun e => by have := (HO.out.lt pb e.symm).1; omega)).trans HB.out)
  clear hnew hown hB
  go_enter Tryz.func311, Tryz.ntmps311
  go_wp2_with (at_builtin; refine wpList_append_own _ rfl _ _ 22 rfl base 3 i0 (.int .i64 0) 1 8 Tryz.underlying22 hi hz0 hz1 hz2 rfl (by decide) _ _ _ rfl HO.out ⟨w.heap.size, 0, none⟩ 1 1 [.int .i64 x] rfl rfl HW.out (by simp [Value.oneCell']) HB1.out HB2.out HB3.out ?_; intro v' w' h2 h3 h4; clear h4; obtain ⟨A', c', rfl⟩ := own_form h2; have H2 := Lib.hid h2; have H3 := Lib.hid h3; have hcp : w'.cell? ⟨pb, 0, none⟩ = some v := (HPB.out w' h3).cell 0; have hfz : w'.frozen? ⟨pb, 0, none⟩ = false := (HPB.out w' h3).frozen 0; clear h2 h3)
  go_end0
  have hne : ∀ r, v.ownBlock = some r → base ≤ r := fun r e => (HO.out.lt r e).1
  refine ⟨rfl, ⟨.slice A' (l.length + 1) c', ?_, ?_⟩, ?_⟩
  · exact Blk.stored (cs := #[v]) (HPB.out w' H3.out) 0 _
  · have h9 := H2.out
    rw [ints_snoc] at h9
    rw [show (l ++ [x]).length = l.length + 1 by simp]
    exact own_keep h9 fun g hg _ _ => Below.heap_setCell _ ⟨pb, 0, none⟩ _ g (by show g ≠ pb; omega)
  · exact (((Keeps.refl _ w).alloc _).grown H3.out (fun r e hU => by have := hne r e; omega)).setCell (p := ⟨pb, 0, none⟩) (by simp) _
end Go.Proofs.YtbknmapkdjmcjaaGreatDoor.By
