/-
  WALKS of layer 14: the document's own Next.
-/
import Derived.Test.YthkbdclnnpcoiaaUc
namespace Go.Proofs.Ythkbdclnnpcoiaa.By
open Go.RowKit
open Mem Gm Rf

theorem own_lit (w : World) (base : Nat) (l : List Int) (hb : base ≤ w.heap.size) (hl : l.length ≤ maxLen) : (w.alloc (.cells (ints l).toArray 3)).ownsRow base 3 1 (.slice (some ⟨w.heap.size, 0, none⟩) l.length l.length) l.length (ints l) :=
  ⟨by simp [ints], .inr ⟨w.heap.size, l.length, _, rfl, hb, heap_alloc_new w _, Nat.le_refl _, hl, by simp [ints], by rw [Nat.mul_one, List.take_of_length_le (by simp [ints])]⟩⟩

def NAns (w : World) (l : List Int) (e : Ending) (w' : World) : Prop := ∃ v, e = .returned v ∧ Rw w' w.heap.size v l ∧ Below w.heap.size w w'

theorem nans_lit (w W : World) (l : List Int) (hb : Below w.heap.size w W) (hl : l.length ≤ 2) : NAns w l (.returned (.slice (some ⟨W.heap.size, 0, none⟩) l.length l.length)) (W.alloc (.cells (ints l).toArray 3)) :=
  ⟨_, rfl, ⟨_, _, rfl, own_lit W _ l hb.size (by unfold maxLen; omega)⟩, hb.alloc hb.size _⟩

theorem nans_nil (w W : World) (hb : Below w.heap.size w W) : NAns w [] (.returned (.slice none 0 0)) W :=
  ⟨_, rfl, ⟨none, 0, rfl, World.ownsRow_nil _ _ _ _⟩, hb⟩

set_option maxRecDepth 100000 in
set_option maxHeartbeats 2000000 in
theorem rnext_any (w : World) (A : Option Addr) (n c : Nat) (O T : Nat → Int) (h : Cd w w.heap.size A n c O T) (i : Int) :
    Calls Try.prog 20 #[.slice A n c, .int .i64 i] w (NAns w (nxt n O T i)) := by
  have hnl : n ≤ maxLen := Nat.le_trans h.1 h.2.1
  unfold maxLen at hnl
  by_cases hp : 0 ≤ i ∧ i < n
  · obtain ⟨k, rfl⟩ : ∃ k : Nat, i = (k : Int) := ⟨i.toNat, by omega⟩
    have hkn : k < n := by omega
    have hkI : (k : Int) < (n : Int) := by omega
    have hk9 : (k : Int) < 9223372036854775807 := by omega
    have hd0 : ¬ ((k : Int) < 0) := by omega
    have hd1 : ¬ ((n : Int) ≤ (k : Int)) := by omega
    have hx : nxt n O T (k : Int) = nx (O k) (T k) ((k : Int) + 1) := by
      unfold nxt; rw [if_pos hp]; rfl
    obtain ⟨ad, x, y, z, rfl, hab, c0, c1, c2, c3, c4⟩ := h.at_ hkn
    rw [hx]
    have HRE := Lib.hid (rends_any (O k))
    generalize O k = o at c0 HRE ⊢
    generalize T k = t at c4 ⊢
    obtain ⟨W1, hW1⟩ : ∃ W1, w.alloc (.cells #[.int .i64 o, .int .i64 x, .int .i64 y, .int .i64 z, .int .i64 t] 39) = W1 := ⟨_, rfl⟩
    have hB1 : Below w.heap.size w W1 := by rw [← hW1]; exact (Below.refl _ w).alloc (Nat.le_refl _) _
    have hz1 : w.heap.size < W1.heap.size := by rw [← hW1]; simp
    have hcs := (Blk.new w 39 #[.int .i64 o, .int .i64 x, .int .i64 y, .int .i64 z, .int .i64 t]).cell
    rw [hW1] at hcs
    have d0 : W1.cell? ⟨w.heap.size, 0, none⟩ = some (.int .i64 o) := hcs 0
    have d4 : W1.cell? ⟨w.heap.size, 4, none⟩ = some (.int .i64 t) := hcs 4
    have HB1 := Lib.hid hB1
    have HK := Lib.hid (show ∀ W', Below W1.heap.size W1 W' → W'.cell? ⟨w.heap.size, 0, none⟩ = some (.int .i64 o) from fun W' hb => (hb.cell hz1).trans d0)
    have HT := Lib.hid (show ∀ W', Below W1.heap.size W1 W' → Below w.heap.size w W' from fun W' hb => hB1.trans (hb.mono (by omega)))
    clear hx hp h hB1 hz1 hab hcs hnl
    by_cases h11 : o = 11
    · subst h11
      have hx : nx 11 t ((k : Int) + 1) = [t] := rfl
      rw [hx]
      clear hx
      go_enter Try.func20, Try.ntmps20
      go_wp2_with fail
      go_ret
      exact nans_lit w W1 [t] HB1.out (by simp)
    · have k11 : (o == 11) = false := by simpa using h11
      by_cases h22 : o = 22 ∨ o = 24
      · have hx : nx o t ((k : Int) + 1) = [] := by unfold nx; rw [if_neg h11, if_pos h22]
        have hE : enV o = true := by unfold enV; simp; omega
        rw [hE] at HRE
        rw [hx]
        clear hx hE h22 h11
        go_enter Try.func20, Try.ntmps20
        go_wp2_with (go_at_call 26; refine (HRE.out _).mono ?_; rintro e w2 ⟨rfl, hb2⟩; have HB2 := Lib.hid (HT.out _ hb2); clear hb2)
        go_ret
        exact nans_nil w w2 HB2.out
      · have hE : enV o = false := by unfold enV; simp; omega
        rw [hE] at HRE
        have hx : nx o t ((k : Int) + 1) = if o ≠ 12 ∨ t = (k : Int) + 1 then [(k : Int) + 1] else if t < (k : Int) + 1 then [t, (k : Int) + 1] else [(k : Int) + 1, t] := by unfold nx; rw [if_neg h11, if_neg h22]
        rw [hx]
        clear hx hE
        by_cases h12 : o = 12
        · subst h12
          by_cases ht : t = (k : Int) + 1
          · rw [if_pos (.inr ht)]
            have e1 : (t == (k : Int) + 1) = true := by simpa using ht
            clear ht
            go_enter Try.func20, Try.ntmps20
            go_wp2_with (go_at_call 26; refine (HRE.out _).mono ?_; rintro e w2 ⟨rfl, hb2⟩; have HB2 := Lib.hid (HT.out _ hb2); have d2 := HK.out _ hb2; clear hb2)
            go_ret
            exact nans_lit w w2 [(k : Int) + 1] HB2.out (by simp)
          · rw [if_neg (by omega)]
            have e1 : (t == (k : Int) + 1) = false := by simpa using ht
            by_cases htl : t < (k : Int) + 1
            · rw [if_pos htl]
              have e2 : decide (t < (k : Int) + 1) = true := by simpa using htl
              clear ht htl
              go_enter Try.func20, Try.ntmps20
              go_wp2_with (go_at_call 26; refine (HRE.out _).mono ?_; rintro e w2 ⟨rfl, hb2⟩; have HB2 := Lib.hid (HT.out _ hb2); have d2 := HK.out _ hb2; clear hb2)
              go_ret
              exact nans_lit w w2 [t, (k : Int) + 1] HB2.out (by simp)
            · rw [if_neg htl]
              have e2 : decide (t < (k : Int) + 1) = false := by simpa using htl
              clear ht htl
              go_enter Try.func20, Try.ntmps20
              go_wp2_with (go_at_call 26; refine (HRE.out _).mono ?_; rintro e w2 ⟨rfl, hb2⟩; have HB2 := Lib.hid (HT.out _ hb2); have d2 := HK.out _ hb2; clear hb2)
              go_ret
              exact nans_lit w w2 [(k : Int) + 1, t] HB2.out (by simp)
        · rw [if_pos (.inl h12)]
          have k12 : (o != 12) = true := by simpa using h12
          clear h11 h12 h22
          go_enter Try.func20, Try.ntmps20
          go_wp2_with (go_at_call 26; refine (HRE.out _).mono ?_; rintro e w2 ⟨rfl, hb2⟩; have HB2 := Lib.hid (HT.out _ hb2); have d2 := HK.out _ hb2; clear hb2)
          go_ret
          exact nans_lit w w2 [(k : Int) + 1] HB2.out (by simp)
  · have hx : nxt n O T i = [] := by unfold nxt; rw [if_neg hp]
    rw [hx]
    have hd : decide (i < 0) = true ∨ (decide (i < 0) = false ∧ decide ((n : Int) ≤ i) = true) := by
      by_cases h0 : i < 0
      · exact .inl (by simpa using h0)
      · exact .inr ⟨by simpa using h0, by simp; omega⟩
    clear hp hx h hnl
    rcases hd with hd | ⟨hd, hd2⟩
    · go_enter Try.func20, Try.ntmps20
      go_wp2_with fail
      go_ret
      exact nans_nil w w (Below.refl _ _)
    · go_enter Try.func20, Try.ntmps20
      go_wp2_with fail
      go_ret
      exact nans_nil w w (Below.refl _ _)
end Go.Proofs.Ythkbdclnnpcoiaa.By
