/-
  WALK of layer 23: the fixed calls.
-/
import Derived.Test.YtmabenffdpipmaaSp
import Derived.Test.YtmabenffdpipmaaSi
namespace Go.Proofs.Ytmabenffdpipmaa.By
open Go.RowKit Go.Maps
open Mem Rf
set_option linter.unusedSimpArgs false
set_option linter.unusedVariables false

theorem flat_at {α : Type} {k : Nat} {enc : α → List Value} (hk : ∀ x, (enc x).length = k) : ∀ (l : List α) (i j : Nat) (x : α) (u : Value), l[i]? = some x → (enc x)[j]? = some u → (l.flatMap enc)[i * k + j]? = some u
  | [], i, j, x, u, h, _ => by simp at h
  | y :: l, 0, j, x, u, h, hu => by
    simp at h
    subst h
    rw [List.flatMap_cons, Nat.zero_mul, Nat.zero_add, List.getElem?_append_left (List.getElem?_eq_some_iff.1 hu).1]
    exact hu
  | y :: l, i + 1, j, x, u, h, hu => by
    rw [List.getElem?_cons_succ] at h
    rw [List.flatMap_cons, List.getElem?_append_right (by rw [hk, Nat.add_mul]; omega), hk, show (i + 1) * k + j - k = i * k + j by rw [Nat.add_mul]; omega]
    exact flat_at hk l i j x u h hu

theorem wd_flat {α : Type} {k : Nat} {enc : α → List Value} {w : World} {B : Nat} {ad : Addr} {l : List α} {n cap : Nat} (hk : ∀ x, (enc x).length = k) (hc : ∀ m u, (l.flatMap enc)[m]? = some u → w.cell? (ad.add m) = some u) (hb : ad.block < B) (hl : l.length = n) (hn : n ≤ cap) (hm : cap ≤ maxLen) : Wd k enc w B (some ad) n cap l :=
  ⟨hl, hn, hm, fun e => by simp at e, fun i x hi => ⟨ad, rfl, hb, fun j u hu => by rw [add_twice]; exact hc _ _ (flat_at hk l i j x u hi hu)⟩⟩

theorem wd_blk {α : Type} {k : Nat} {enc : α → List Value} {w : World} {B g : Nat} {t : TypeId} {l : List α} {n : Nat} (hk : ∀ x, (enc x).length = k) (hb : Blk w g t (l.flatMap enc).toArray) (hB : g < B) (hl : l.length = n) (hm : n ≤ 1000) : Wd k enc w B (some ⟨g, 0, none⟩) n n l :=
  wd_flat hk (fun m u hu => by rw [add_plain, Nat.zero_add, hb.cell]; simpa using hu) hB hl (Nat.le_refl _) (by unfold maxLen; omega)

theorem encSy_length (x : Sy) : (encSy x).length = 5 := rfl
theorem encOb_length (x : Ob) : (encOb x).length = 3 := rfl

def sF : Sy := (⟨#[102]⟩, false, 1, 0, -1)
def sG : Sy := (⟨#[103]⟩, false, 2, 0, 0)
def sH : Sy := (⟨#[102]⟩, false, 1, 0, 0)

def kw1 (w : World) : World := (((w.alloc (.cells #[.string ⟨#[102]⟩, .bool false, .int .i64 1, .int .i64 0, .int .i64 0] 42)).alloc (.cells #[.string ⟨#[102]⟩, .bool false, .int .i64 1, .int .i64 0, .int .i64 (-1)] 42)).alloc (.cells #[.string ⟨#[103]⟩, .bool false, .int .i64 2, .int .i64 0, .int .i64 0, .string ⟨#[102]⟩, .bool false, .int .i64 1, .int .i64 0, .int .i64 0] 42)).alloc (.cells #[.slice (some ⟨w.heap.size + 1, 0, none⟩) 1 1, .slice none 0 0, .slice none 0 0, .slice (some ⟨w.heap.size + 1 + 1, 0, none⟩) 2 2, .slice none 0 0, .slice none 0 0] 40)
def kos1 (w : World) : List Ob := [⟨some ⟨w.heap.size + 1, 0, none⟩, 1, 1, [sF], (none, 0, 0), (none, 0, 0)⟩, ⟨some ⟨w.heap.size + 1 + 1, 0, none⟩, 2, 2, [sG, sH], (none, 0, 0), (none, 0, 0)⟩]
def kw2 (w : World) : World := ((w.alloc (.cells #[.string ⟨#[102]⟩, .bool false, .int .i64 1, .int .i64 0, .int .i64 0] 42)).alloc (.cells #[.string ⟨#[102]⟩, .bool false, .int .i64 1, .int .i64 0, .int .i64 0] 42)).alloc (.cells #[.slice (some ⟨w.heap.size, 0, none⟩) 1 1, .slice none 0 0, .slice none 0 0, .slice (some ⟨w.heap.size + 1, 0, none⟩) 1 1, .slice none 0 0, .slice none 0 0] 40)
def kos2 (w : World) : List Ob := [⟨some ⟨w.heap.size, 0, none⟩, 1, 1, [sH], (none, 0, 0), (none, 0, 0)⟩, ⟨some ⟨w.heap.size + 1, 0, none⟩, 1, 1, [sH], (none, 0, 0), (none, 0, 0)⟩]

theorem blk_at {w : World} {g : Nat} {t : TypeId} {cs : Array Value} (h : g = w.heap.size) : Blk (w.alloc (.cells cs t)) g t cs := h ▸ Blk.new _ _ _
theorem kw1_size (w : World) : (kw1 w).heap.size = w.heap.size + 4 := by unfold kw1; simp
theorem kw2_size (w : World) : (kw2 w).heap.size = w.heap.size + 3 := by unfold kw2; simp
theorem kw1_below (w : World) : Below w.heap.size w (kw1 w) := by
  unfold kw1
  exact ((((Below.refl _ w).alloc (Nat.le_refl _) _).alloc (by simp) _).alloc (by simp; omega) _).alloc (by simp; omega) _
theorem kw2_below (w : World) : Below w.heap.size w (kw2 w) := by
  unfold kw2
  exact (((Below.refl _ w).alloc (Nat.le_refl _) _).alloc (by simp) _).alloc (by simp; omega) _
theorem kw1_sym (w : World) : Blk (kw1 w) w.heap.size 42 #[.string ⟨#[102]⟩, .bool false, .int .i64 1, .int .i64 0, .int .i64 0] := by
  unfold kw1
  exact (((Blk.new w _ _).alloc _).alloc _).alloc _
theorem kw1_ob (w : World) : ObL (kw1 w) (kw1 w).heap.size (some ⟨w.heap.size + 1 + 1 + 1, 0, none⟩) 2 2 (kos1 w) := by
  have b1 : Blk (kw1 w) (w.heap.size + 1) 42 ([sF].flatMap encSy).toArray := by
    unfold kw1
    exact ((blk_at (by simp)).alloc _).alloc _
  have b2 : Blk (kw1 w) (w.heap.size + 1 + 1) 42 ([sG, sH].flatMap encSy).toArray := by
    unfold kw1
    exact (blk_at (by simp)).alloc _
  have b3 : Blk (kw1 w) (w.heap.size + 1 + 1 + 1) 40 ((kos1 w).flatMap encOb).toArray := by
    unfold kw1
    exact blk_at (by simp)
  refine ⟨wd_blk encOb_length b3 b3.lt rfl (by omega), fun i hi => ?_⟩
  match i, hi with
  | 0, _ => exact wd_blk (n := 1) encSy_length b1 b1.lt rfl (by omega)
  | 1, _ => exact wd_blk (n := 2) encSy_length b2 b2.lt rfl (by omega)
theorem kw2_ob (w : World) : ObL (kw2 w) (kw2 w).heap.size (some ⟨w.heap.size + 1 + 1, 0, none⟩) 2 2 (kos2 w) := by
  have b1 : Blk (kw2 w) w.heap.size 42 ([sH].flatMap encSy).toArray := by
    unfold kw2
    exact ((Blk.new w _ _).alloc _).alloc _
  have b2 : Blk (kw2 w) (w.heap.size + 1) 42 ([sH].flatMap encSy).toArray := by
    unfold kw2
    exact (blk_at (by simp)).alloc _
  have b3 : Blk (kw2 w) (w.heap.size + 1 + 1) 40 ((kos2 w).flatMap encOb).toArray := by
    unfold kw2
    exact blk_at (by simp)
  refine ⟨wd_blk encOb_length b3 b3.lt rfl (by omega), fun i hi => ?_⟩
  match i, hi with
  | 0, _ => exact wd_blk (n := 1) encSy_length b1 b1.lt rfl (by omega)
  | 1, _ => exact wd_blk (n := 1) encSy_length b2 b2.lt rfl (by omega)

theorem why_of (a b c : Int) (W : World) : (Instr.field 31 (.agg #[.int .i64 a, .int .i64 b, .int .i64 c]) 0).run Try.prog W = .ok (.int .i64 a) W := by
  have hu := run_underlying (w := W) Try.underlying31
  have hv := run_underlying (w := W) Try.underlying27
  simp [Instr.field, hu, asAgg, part, isAgg, hv, Result.andThen]

def kL1 : List (List Sy) := [[sF], [sG, sH]]
def kL2 : List (List Sy) := [[sH], [sH]]
theorem kos1_lists (w : World) : lists (kos1 w) = kL1 := rfl
theorem kos2_lists (w : World) : lists (kos2 w) = kL2 := rfl
theorem nmp1 (w : World) : NmP (kos1 w) := ⟨by rw [kos1_lists]; decide +kernel, by rw [kos1_lists]; decide +kernel⟩
theorem nmp2 (w : World) : NmP (kos2 w) := ⟨by rw [kos2_lists]; decide +kernel, by rw [kos2_lists]; decide +kernel⟩
theorem k_find : findV kL1 ⟨#[102]⟩ = some (1, 1) := by decide +kernel
theorem k_bound : boundV kL1 0 0 = ((1, 1), 0) := by decide +kernel
theorem k_twice : twiceV kL2 = some (1, 0) := by decide +kernel
theorem k_check : checkV kL1 = (0, 0, 0) := by decide +kernel
theorem k_nil : checkV [] = (19, -1, -1) := by decide +kernel

set_option maxRecDepth 100000 in
set_option maxHeartbeats 4000000 in
theorem known_any (w : World) : Calls Try.prog 7 #[] w fun e w' => e = .returned (.bool true) ∧ Below w.heap.size w w' := by
  have h1 := find_any _ 2 2 _ (kos1 w) (kw1 w) (kw1_ob w) (Nat.le_refl _) (nmp1 w) ⟨#[102]⟩ (by decide +kernel)
  rw [kos1_lists, k_find] at h1
  unfold findE at h1
  dsimp only [Option.getD, Option.isSome] at h1
  have HO := Lib.hid (fun W (hb : Below (kw1 w).heap.size (kw1 w) W) => (kw1_ob w).below hb)
  have HBD := Lib.hid (fun W (hb : Below (kw1 w).heap.size (kw1 w) W) => by
    have := bound_any _ 2 2 _ (kos1 w) W ((kw1_ob w).below hb) hb.size (nmp1 w) 0 0
    rw [kos1_lists, k_bound] at this
    unfold boundE at this
    exact this)
  have HCK := Lib.hid (fun W (hb : Below (kw1 w).heap.size (kw1 w) W) => by
    have := check_any _ 2 2 _ (kos1 w) W ((kw1_ob w).below hb) hb.size (nmp1 w)
    rw [kos1_lists, k_check] at this
    unfold chkE at this
    exact this)
  have HNL := Lib.hid (fun W => by
    have := check_any none 0 0 0 [] W ⟨Wd.nil, fun i hi => by omega⟩ (Nat.zero_le _) ⟨by decide +kernel, by decide +kernel⟩
    rw [show lists [] = [] from rfl, k_nil] at this
    unfold chkE at this
    exact this)
  have HTW := Lib.hid (fun W => by
    have := twice_any _ 2 2 _ (kos2 W) (kw2 W) (kw2_ob W) (Nat.le_refl _) (nmp2 W)
    rw [kos2_lists, k_twice] at this
    unfold rejE at this
    unfold kw2 at this
    exact this)
  have HSY := Lib.hid (fun W (hb : Below (kw1 w).heap.size (kw1 w) W) => (kw1_sym w).below hb (kw1_sym w).lt)
  have HK1 := Lib.hid (kw1_below w)
  have HS1 := Lib.hid (kw1_size w)
  have HW : Hid (_ = kw1 w) := Lib.hid (show _ = kw1 w by unfold kw1; rfl)
  unfold kw1 at h1
  have HF := Lib.hid h1
  clear h1
  go_enter Try.func7, Try.ntmps7
  go_wp2_with (go_at_call 8; refine HF.out.mono ?_; rw [HW.out]; rintro e w2 ⟨rfl, hb2⟩; have HB2 := Lib.hid hb2; clear hb2)
  go_wp2_with (go_at_call 10; refine (HBD.out w2 HB2.out).mono ?_; rintro e w3 ⟨rfl, hb3⟩; have h13 := HB2.out.trans (hb3.mono HB2.out.size); have hs3 := HSY.out w3 h13; have s0 : w3.cell? ⟨w.heap.size, 0, none⟩ = some (.string ⟨#[102]⟩) := hs3.cell 0; have s1 : w3.cell? ⟨w.heap.size, 1, none⟩ = some (.bool false) := hs3.cell 1; have s2 : w3.cell? ⟨w.heap.size, 2, none⟩ = some (.int .i64 1) := hs3.cell 2; have s3 : w3.cell? ⟨w.heap.size, 3, none⟩ = some (.int .i64 0) := hs3.cell 3; have s4 : w3.cell? ⟨w.heap.size, 4, none⟩ = some (.int .i64 0) := hs3.cell 4; have hl3 := hs3.lt; have H13 := Lib.hid h13; clear hb3 h13 hs3)
  go_wp2_with (go_at_call 12; refine (HTW.out w3).mono ?_; rintro e w4 ⟨rfl, hb4⟩; have h14 : Below (kw1 w).heap.size (kw1 w) w4 := H13.out.trans (((kw2_below w3).trans (hb4.mono (kw2_below w3).size)).mono H13.out.size); have H14 := Lib.hid h14; clear hb4 h14)
  go_wp2_with (go_at_call 14; refine (HCK.out _ (H14.out.alloc H14.out.size _)).mono ?_; rintro e w6 ⟨rfl, hb6⟩; have hwy := why_of 0 0 0 w6; have H16 := Lib.hid ((H14.out.alloc H14.out.size _).trans (hb6.mono (H14.out.alloc H14.out.size _).size)); clear hb6; go_wp2_with (go_at_call 14; refine (HNL.out w6).mono ?_; rintro e w7 ⟨rfl, hb7⟩; have H17 := Lib.hid (H16.out.trans (hb7.mono H16.out.size)); clear hb7))
  go_ret
  exact ⟨rfl, HK1.out.trans (H17.out.mono HK1.out.size)⟩
end Go.Proofs.Ytmabenffdpipmaa.By
