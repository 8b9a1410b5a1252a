/-
  OBJECTS, AND WHAT THE DOCUMENT'S CALLS BELOW ANSWER, as hypotheses. WALKS of layer 19's document: Items, defines, Definer.
-/
import Derived.Test.YtbcabomblfehlabQa
import Derived.Deep.RegionHeld3
namespace Go.Proofs.Ytbcabomblfehlab.Bo
open Go.RowKit
open Mem Rf
set_option linter.unusedSimpArgs false
set_option linter.unusedVariables false

/-- What the document's calls of the layers below answer, of this object, in worlds behind w. -/
structure Dx (w : World) (o : Oj) (ne : ByteArray → Int) (ks kt : Int → Bool) (vf rf de : Nat → Int) : Prop where
  mem : OjL w o
  few : o.n ≤ 1000 ∧ o.fn ≤ 1000 ∧ o.dn ≤ 1000
  name : ∀ W, Below w.heap.size w W → ∀ k, k < o.n → Calls Try.prog 63 #[.string (syAt o.l k).1] W fun e w' => e = .returned (.int .i64 (ne (syAt o.l k).1)) ∧ Below W.heap.size W w'
  is : ∀ W, Below w.heap.size w W → ∀ x, Calls Try.prog 64 #[.int .i64 x] W fun e w' => e = .returned (.bool (ks x)) ∧ Below W.heap.size W w'
  text : ∀ W, Below w.heap.size w W → ∀ k, k < o.n → Calls Try.prog 65 #[.int .i64 (syAt o.l k).2.2.2.1] W fun e w' => (∃ t, e = .returned (.string t) ∧ (ByteArray.toList t).isEmpty = !kt (syAt o.l k).2.2.2.1) ∧ Below W.heap.size W w'
  fn : ∀ W, Below w.heap.size w W → ∀ j, j < o.fn → Calls Try.prog 68 #[.agg (encFc (fcAt o.fl j)).toArray, .slice o.A o.n o.c] W fun e w' => (∃ x, e = .returned (.tuple #[.int .i64 (vf j), .int .i64 x])) ∧ Below W.heap.size W w'
  rng : ∀ W, Below w.heap.size w W → ∀ j, j < o.fn → Calls Try.prog 69 #[.agg (encFc (fcAt o.fl j)).toArray] W fun e w' => e = .returned (.int .i64 (rf j)) ∧ Below W.heap.size W w'
  dat : ∀ W, Below w.heap.size w W → ∀ j, j < o.dn → Calls Try.prog 67 #[.agg (encDc (dcAt o.dl j)).toArray, .slice o.A o.n o.c] W fun e w' => e = .returned (.int .i64 (de j)) ∧ Below W.heap.size W w'
section
variable {w w' : World} {o : Oj} {ne : ByteArray → Int} {ks kt : Int → Bool} {vf rf de : Nat → Int}
theorem Dx.on (h : Dx w o ne ks kt vf rf de) (hb : Below w.heap.size w w') : Dx w' o ne ks kt vf rf de where
  mem := h.mem.on hb
  few := h.few
  name := fun W hW => h.name W (hb.trans (hW.mono hb.size))
  is := fun W hW => h.is W (hb.trans (hW.mono hb.size))
  text := fun W hW => h.text W (hb.trans (hW.mono hb.size))
  fn := fun W hW => h.fn W (hb.trans (hW.mono hb.size))
  rng := fun W hW => h.rng W (hb.trans (hW.mono hb.size))
  dat := fun W hW => h.dat W (hb.trans (hW.mono hb.size))
end

/-- Boxes of three cells, of five behind, as they lie behind calls. -/
theorem bx3 {w w2 : World} {t : TypeId} {a b c : Value} (hb : Below (w.alloc (.cells #[a, b, c] t)).heap.size (w.alloc (.cells #[a, b, c] t)) w2) :
    Below w.heap.size w w2 ∧ w2.cell? ⟨w.heap.size, 0, none⟩ = some a ∧ w2.cell? ⟨w.heap.size, 1, none⟩ = some b ∧ w2.cell? ⟨w.heap.size, 2, none⟩ = some c := by
  have hk := (Blk.new w t #[a, b, c]).below hb (by simp)
  exact ⟨to_ (alloc_ w _) hb, hk.cell 0, hk.cell 1, hk.cell 2⟩
theorem bx35 {w w2 : World} {t u : TypeId} {a b c p q r s v : Value} (hb : Below ((w.alloc (.cells #[a, b, c] t)).alloc (.cells #[p, q, r, s, v] u)).heap.size ((w.alloc (.cells #[a, b, c] t)).alloc (.cells #[p, q, r, s, v] u)) w2) :
    Below w.heap.size w w2 ∧ w2.cell? ⟨w.heap.size, 0, none⟩ = some a ∧ w2.cell? ⟨w.heap.size, 1, none⟩ = some b ∧ w2.cell? ⟨w.heap.size, 2, none⟩ = some c ∧ w2.cell? ⟨w.heap.size + 1, 0, none⟩ = some p ∧ w2.cell? ⟨w.heap.size + 1, 1, none⟩ = some q ∧ w2.cell? ⟨w.heap.size + 1, 2, none⟩ = some r ∧ w2.cell? ⟨w.heap.size + 1, 3, none⟩ = some s ∧ w2.cell? ⟨w.heap.size + 1, 4, none⟩ = some v := by
  have hk := (((Blk.new w t #[a, b, c]).alloc (.cells #[p, q, r, s, v] u))).below hb (by simp; omega)
  have hk2 := Blk.new (w.alloc (.cells #[a, b, c] t)) u #[p, q, r, s, v]
  rw [World.size_alloc] at hk2
  have hk2 := hk2.below hb (by simp)
  exact ⟨to_ (to_ (alloc_ w _) (alloc_ _ _)) hb, hk.cell 0, hk.cell 1, hk.cell 2, hk2.cell 0, hk2.cell 1, hk2.cell 2, hk2.cell 3, hk2.cell 4⟩

theorem ditems (o : Oj) (w : World) (hf : o.fn ≤ 1000 ∧ o.dn ≤ 1000) : Calls Try.prog 49 #[ojV o] w fun e w' => e = .returned (.int .i64 ((o.fn + o.dn : Nat) : Int)) ∧ Below w.heap.size w w' := by
  obtain ⟨A, n, c, l, fA, fn, fc, fl, dA, dn, dc, dl⟩ := o
  unfold ojV
  dsimp only at hf ⊢
  have hs : ((fn + dn : Nat) : Int) = (fn : Int) + (dn : Int) := by omega
  rw [hs]
  go_enter Try.func49, Try.ntmps49
  go_wp2_with fail
  go_ret
  exact ⟨by go_num, (Below.refl _ _).alloc (Nat.le_refl _) _⟩

def dfT (k : Int × Int) (y : Sy) : Bool := decide (y.2.2.1 = k.1 ∧ y.2.2.2.2 = k.2)

set_option maxRecDepth 100000 in
set_option maxHeartbeats 2000000 in
theorem ddefines (o : Oj) (y : Sy) (i : Nat) (hf : o.fn ≤ 1000 ∧ o.dn ≤ 1000) (hi : i < o.fn + o.dn) (w : World) :
    Calls Try.prog 74 #[ojV o, syV y, .int .i64 (i : Int)] w fun e w' => e = .returned (.bool (dfT (keyO o.fn i) y)) ∧ Below w.heap.size w w' := by
  have HI := Lib.hid (fun W => ditems o W hf)
  obtain ⟨A, n, c, l, fA, fn, fc, fl, dA, dn, dc, dl⟩ := o
  obtain ⟨y0, y1, y2, y3, y4⟩ := y
  unfold ojV at HI ⊢
  unfold syV dfT keyO
  dsimp only at HI hf hi ⊢
  have hi0 : ¬ (i : Int) < 0 := by omega
  have hi1 : ¬ ((fn + dn : Nat) : Int) ≤ (i : Int) := by omega
  by_cases hlt : i < fn
  · have hl1 : (i : Int) < (fn : Int) := by omega
    rw [if_pos hlt]
    dsimp only
    by_cases h1 : y2 = 1
    · by_cases h2 : y4 = (i : Int)
      · rw [decide_eq_true ⟨h1, h2⟩]
        have e1 : (y2 == 1) = true := by simp [h1]
        have e2 : (y4 == (i : Int)) = true := by simp [h2]
        clear h1 h2
        go_enter Try.func74, Try.ntmps74
        go_wp2_with (go_at_call 49; refine (HI.out _).mono ?_; rintro e w2 ⟨rfl, b2⟩; obtain ⟨hb2, c0, c1, c2, s0, s1, s2, s3, s4⟩ := bx35 b2; have HB2 := Lib.hid hb2; clear b2 hb2)
        go_ret
        exact ⟨rfl, HB2.out⟩
      · rw [decide_eq_false (fun x => h2 x.2)]
        have e1 : (y2 == 1) = true := by simp [h1]
        have e2 : (y4 == (i : Int)) = false := by simp [h2]
        clear h1 h2
        go_enter Try.func74, Try.ntmps74
        go_wp2_with (go_at_call 49; refine (HI.out _).mono ?_; rintro e w2 ⟨rfl, b2⟩; obtain ⟨hb2, c0, c1, c2, s0, s1, s2, s3, s4⟩ := bx35 b2; have HB2 := Lib.hid hb2; clear b2 hb2)
        go_ret
        exact ⟨rfl, HB2.out⟩
    · rw [decide_eq_false (fun x => h1 x.1)]
      have e1 : (y2 == 1) = false := by simp [h1]
      clear h1
      go_enter Try.func74, Try.ntmps74
      go_wp2_with (go_at_call 49; refine (HI.out _).mono ?_; rintro e w2 ⟨rfl, b2⟩; obtain ⟨hb2, c0, c1, c2, s0, s1, s2, s3, s4⟩ := bx35 b2; have HB2 := Lib.hid hb2; clear b2 hb2)
      go_ret
      exact ⟨rfl, HB2.out⟩
  · have hl1 : ¬ (i : Int) < (fn : Int) := by omega
    rw [if_neg hlt]
    dsimp only
    have hsub : IntKind.i64.wrap ((i : Int) - (fn : Int)) = (i : Int) - (fn : Int) := by
      have a1 : -9223372036854775808 ≤ (i : Int) - (fn : Int) := by omega
      have a2 : (i : Int) - (fn : Int) ≤ 9223372036854775807 := by omega
      exact IntWalk.i64_in _ ⟨a1, a2⟩
    by_cases h1 : y2 = 2
    · by_cases h2 : y4 = (i : Int) - (fn : Int)
      · rw [decide_eq_true ⟨h1, h2⟩]
        have e1 : (y2 == 2) = true := by simp [h1]
        have e2 : (y4 == (i : Int) - (fn : Int)) = true := by simp [h2]
        clear h1 h2
        go_enter Try.func74, Try.ntmps74
        go_wp2_with (go_at_call 49; refine (HI.out _).mono ?_; rintro e w2 ⟨rfl, b2⟩; obtain ⟨hb2, c0, c1, c2, s0, s1, s2, s3, s4⟩ := bx35 b2; have HB2 := Lib.hid hb2; clear b2 hb2)
        go_ret
        exact ⟨rfl, HB2.out⟩
      · rw [decide_eq_false (fun x => h2 x.2)]
        have e1 : (y2 == 2) = true := by simp [h1]
        have e2 : (y4 == (i : Int) - (fn : Int)) = false := by simp [h2]
        clear h1 h2
        go_enter Try.func74, Try.ntmps74
        go_wp2_with (go_at_call 49; refine (HI.out _).mono ?_; rintro e w2 ⟨rfl, b2⟩; obtain ⟨hb2, c0, c1, c2, s0, s1, s2, s3, s4⟩ := bx35 b2; have HB2 := Lib.hid hb2; clear b2 hb2)
        go_ret
        exact ⟨rfl, HB2.out⟩
    · rw [decide_eq_false (fun x => h1 x.1)]
      have e1 : (y2 == 2) = false := by simp [h1]
      clear h1
      go_enter Try.func74, Try.ntmps74
      go_wp2_with (go_at_call 49; refine (HI.out _).mono ?_; rintro e w2 ⟨rfl, b2⟩; obtain ⟨hb2, c0, c1, c2, s0, s1, s2, s3, s4⟩ := bx35 b2; have HB2 := Lib.hid hb2; clear b2 hb2)
      go_ret
      exact ⟨rfl, HB2.out⟩

set_option maxRecDepth 100000 in
set_option maxHeartbeats 4000000 in
theorem ddefiner (w : World) (o : Oj) (h : OjL w o) (hf : o.n ≤ 1000 ∧ o.fn ≤ 1000 ∧ o.dn ≤ 1000) (i : Nat) (hi : i < o.fn + o.dn) :
    Calls Try.prog 66 #[ojV o, .int .i64 (i : Int)] w fun e w' => e = .returned (.int .i64 (ixV (dfr o.l o.fn i))) ∧ Below w.heap.size w w' := by
  have HD := Lib.hid (fun y W => ddefines o y i hf.2 hi W)
  have HS := Lib.hid (fun W (hb : Below w.heap.size w W) k (hk : k < o.n) => (h.sy.on hb).at_ hk)
  have hl : o.l.length = o.n := h.sy.1
  have HF := Lib.hid (show ∀ k, k < o.n → (∀ m, m < k → dfT (keyO o.fn i) (syAt o.l m) = false) → dfT (keyO o.fn i) (syAt o.l k) = true → dfr o.l o.fn i = some k from fun k hk h1 h2 => find_at (by rw [hl]; exact hk) h1 h2)
  have HN := Lib.hid (show (∀ m, m < o.n → dfT (keyO o.fn i) (syAt o.l m) = false) → dfr o.l o.fn i = none from fun h1 => find_no (fun m hm => h1 m (by rw [← hl]; exact hm)))
  clear h hl
  obtain ⟨A, n, c, l, fA, fn, fc, fl, dA, dn, dc, dl⟩ := o
  unfold ojV at HD ⊢
  dsimp only at HD HS HF HN hf hi ⊢
  generalize dfr l fn i = d at *
  generalize dfT (keyO fn i) = Tq at *
  obtain ⟨W0, hW0⟩ : ∃ W0, w.alloc (.cells #[.slice A n c, .slice fA fn fc, .slice dA dn dc] 82) = W0 := ⟨_, rfl⟩
  have HX := Lib.hid (fun W (hb : Below W0.heap.size W0 W) => bx3 (w := w) (w2 := W) (by rw [hW0]; exact hb))
  go_enter Try.func66, Try.ntmps66
  go_wp2_with fail
  clear hW0
  go_loopw [5] (fun i9 wr => ∃ k : Nat, k ≤ n ∧ i9 = .int .i64 (k : Int) ∧ Hid (∀ m, m < k → Tq (syAt l m) = false) ∧ Hid (Below W0.heap.size W0 wr)) (fun i9 _ => n - (intOf i9).toNat)
  case atStart => exact ⟨0, Nat.zero_le _, rfl, Lib.hid (fun m hm => by omega), Lib.hid (Below.refl _ _)⟩
  case round =>
    obtain ⟨k, hk, rfl, HNO, HBE⟩ := hrel
    obtain ⟨hb9, c0, c1, c2⟩ := HX.out wr HBE.out
    by_cases hlt : k < n
    · have hkI : (k : Int) < (n : Int) := by omega
      have hk0 : (0 : Int) ≤ (k : Int) := by omega
      obtain ⟨ad, rfl, _, s0, s1, s2, s3, s4⟩ := HS.out wr hb9 k hlt
      have HV := Lib.hid (HF.out k hlt HNO.out)
      have HM := Lib.hid (show Tq (syAt l k) = false → ∀ m, m < k + 1 → Tq (syAt l m) = false from fun e m hm => by
        rcases Nat.lt_succ_iff_lt_or_eq.1 hm with h | h
        · exact HNO.out m h
        · rw [h]; exact e)
      obtain ⟨⟨y0, y1, y2, y3, y4⟩, hy⟩ : ∃ y, syAt l k = y := ⟨_, rfl⟩
      rw [hy] at s0 s1 s2 s3 s4 HV HM
      dsimp only at s0 s1 s2 s3 s4
      have HD := Lib.hid (fun W => HD.out (y0, y1, y2, y3, y4) W)
      unfold syV at HD
      dsimp only at HD
      clear hy hb9
      obtain ⟨b, hb⟩ : ∃ b, Tq (y0, y1, y2, y3, y4) = b := ⟨_, rfl⟩
      rw [hb] at HV HM HD
      clear hb
      go_wp2_with fail
      refine wp_region_noPanic ?_
      refine wp_region_held_drew (S := fun W => W.cell? ⟨w.heap.size, 0, none⟩ = some (.slice (some ad) n c) ∧ W.cell? ⟨w.heap.size, 1, none⟩ = some (.slice fA fn fc) ∧ W.cell? ⟨w.heap.size, 2, none⟩ = some (.slice dA dn dc) ∧ W.cell? (ad.add (k * 5)) = some (.string y0) ∧ W.cell? ⟨(ad.add (k * 5)).block, (ad.add (k * 5)).off + 1, none⟩ = some (.bool y1) ∧ W.cell? ⟨(ad.add (k * 5)).block, (ad.add (k * 5)).off + 2, none⟩ = some (.int .i64 y2) ∧ W.cell? ⟨(ad.add (k * 5)).block, (ad.add (k * 5)).off + 3, none⟩ = some (.int .i64 y3) ∧ W.cell? ⟨(ad.add (k * 5)).block, (ad.add (k * 5)).off + 4, none⟩ = some (.int .i64 y4) ∧ Below W0.heap.size W0 W) (by kernel_rfl) (⟨c0, c1, c2, s0, s1, s2, s3, s4, HBE.out.drew⟩) (fun hHeld => ?_)
      refine wpAnyH_take (i := 0) rfl (by kernel_rfl) (by kernel_rfl) (by kernel_rfl) (fun _ _ _ h => h) (Or.inl ⟨by rfl, by intro W hSW; (try dsimp only at hSW); go_simp; try (with_reducible rfl)⟩) hHeld ?_
      try simp only [Act.put, List.getElem_toArray, List.getElem_cons_zero, List.getElem_cons_succ, List.setIfInBounds_toArray, List.set_cons_zero, List.set_cons_succ]
      refine wpAnyH_take (i := 1) rfl (by kernel_rfl) (by kernel_rfl) (by kernel_rfl) (fun _ _ _ h => h) (Or.inl ⟨by rfl, by intro W hSW; (try dsimp only at hSW); go_simp; try (with_reducible rfl)⟩) hHeld ?_
      try simp only [Act.put, List.getElem_toArray, List.getElem_cons_zero, List.getElem_cons_succ, List.setIfInBounds_toArray, List.set_cons_zero, List.set_cons_succ]
      refine wpAnyH_take (i := 2) rfl (by kernel_rfl) (by kernel_rfl) (by kernel_rfl) (fun _ _ _ h => h) (Or.inl ⟨by rfl, by intro W hSW; (try dsimp only at hSW); go_simp; try (with_reducible rfl)⟩) hHeld ?_
      try simp only [Act.put, List.getElem_toArray, List.getElem_cons_zero, List.getElem_cons_succ, List.setIfInBounds_toArray, List.set_cons_zero, List.set_cons_succ]
      refine wpAnyH_take (i := 3) rfl (by kernel_rfl) (by kernel_rfl) (by kernel_rfl) (fun _ _ _ h => h) (Or.inl ⟨by rfl, by intro W hSW; (try dsimp only at hSW); go_simp; try (with_reducible rfl)⟩) hHeld ?_
      try simp only [Act.put, List.getElem_toArray, List.getElem_cons_zero, List.getElem_cons_succ, List.setIfInBounds_toArray, List.set_cons_zero, List.set_cons_succ]
      refine wpAnyH_take (i := 4) rfl (by kernel_rfl) (by kernel_rfl) (by kernel_rfl) (fun _ _ _ h => h) (Or.inl ⟨by rfl, by intro W hSW; (try dsimp only at hSW); go_simp; try (with_reducible rfl)⟩) hHeld ?_
      try simp only [Act.put, List.getElem_toArray, List.getElem_cons_zero, List.getElem_cons_succ, List.setIfInBounds_toArray, List.set_cons_zero, List.set_cons_succ]
      refine wpAnyH_take (i := 5) rfl (by kernel_rfl) (by kernel_rfl) (by kernel_rfl) (fun _ _ _ h => h) (Or.inl ⟨by rfl, by intro W hSW; (try dsimp only at hSW); go_simp; try (with_reducible rfl)⟩) hHeld ?_
      try simp only [Act.put, List.getElem_toArray, List.getElem_cons_zero, List.getElem_cons_succ, List.setIfInBounds_toArray, List.set_cons_zero, List.set_cons_succ]
      refine wpAnyH_take (i := 6) rfl (by kernel_rfl) (by kernel_rfl) (by kernel_rfl) (fun _ _ _ h => h) (Or.inl ⟨by rfl, by intro W hSW; (try dsimp only at hSW); go_simp; try (with_reducible rfl)⟩) hHeld ?_
      try simp only [Act.put, List.getElem_toArray, List.getElem_cons_zero, List.getElem_cons_succ, List.setIfInBounds_toArray, List.set_cons_zero, List.set_cons_succ]
      refine wpAnyH_ready (rs := [7]) (by kernel_rfl) (by simp) ?_
      refine AllReadyH.cons rfl (fun K hK => ?_) AllReadyH.nil
      go_simp
      refine (HD.out _).mono ?_
      rintro e w3 ⟨rfl, b3⟩
      try go_wp2_with fail
      refine hK.out _ _ (⟨cell_on hHeld.1 b3, cell_on hHeld.2.1 b3, cell_on hHeld.2.2.1 b3, cell_on hHeld.2.2.2.1 b3, cell_on hHeld.2.2.2.2.1 b3, cell_on hHeld.2.2.2.2.2.1 b3, cell_on hHeld.2.2.2.2.2.2.1 b3, cell_on hHeld.2.2.2.2.2.2.2.1 b3, to_ hHeld.2.2.2.2.2.2.2.2 b3⟩) ?_
      clear hK K hHeld
      intro hHeld
      try simp only [Act.put, List.getElem_toArray, List.getElem_cons_zero, List.getElem_cons_succ, List.setIfInBounds_toArray, List.set_cons_zero, List.set_cons_succ]
      refine wpAnyH_done (by kernel_rfl) ?_ _
      refine NoPanic.normal ?_
      cases b with
      | true =>
        have HR := Lib.hid (HV.out rfl)
        go_wp2_with fail
        go_ret
        exact ⟨by rw [HR.out]; rfl, (HX.out _ hHeld.2.2.2.2.2.2.2.2).1⟩
      | false =>
        have HR := Lib.hid (HM.out rfl)
        go_wp2_with fail
        go_roundw
        case rel => exact ⟨k + 1, by omega, by go_num, HR, Lib.hid hHeld.2.2.2.2.2.2.2.2⟩
        case measure => simp [intOf]; omega
    · obtain rfl : k = n := by omega
      have HR := Lib.hid (HN.out HNO.out)
      go_wp2_with fail
      go_ret
      exact ⟨by rw [HR.out]; rfl, hb9⟩
end Go.Proofs.Ytbcabomblfehlab.Bo
