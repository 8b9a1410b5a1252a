/-
  WALKS of layer 14: what comes behind an instruction: behind, Next.
-/
import Derived.Test.YthkbdclnnpcoiaaUa
namespace Go.Proofs.Ythkbdclnnpcoiaa.By
open Go.RowKit
open Mem Gm Rf

def bh (o t m : Int) : List Int := if o = 12 then [t, m] else if o = 11 then [t] else if o = 22 ∨ o = 24 then [] else [m]
/-- What comes behind an instruction. -/
def nx (o t m : Int) : List Int := if o = 11 then [t] else if o = 22 ∨ o = 24 then [] else if o ≠ 12 ∨ t = m then [m] else if t < m then [t, m] else [m, t]
def nxt (n : Nat) (O T : Nat → Int) (i : Int) : List Int := if 0 ≤ i ∧ i < n then nx (O i.toNat) (T i.toNat) (i + 1) else []

theorem nx_rises (o t m : Int) : (nx o t m).Pairwise (· < ·) := by
  unfold nx
  repeat' split
  all_goals simp
  all_goals omega

theorem mem_nx (o t m x : Int) : x ∈ nx o t m ↔ x ∈ bh o t m := by
  unfold nx bh
  by_cases h1 : o = 11
  · subst h1; simp
  · by_cases h2 : o = 22 ∨ o = 24
    · have : o ≠ 12 := by omega
      simp [h1, h2, this]
    · by_cases h3 : o = 12
      · subst h3
        by_cases h4 : t = m
        · subst h4; simp
        · by_cases h5 : t < m
          · simp [h4, h5]
          · simp [h4, h5, or_comm]
      · simp [h1, h2, h3]

theorem tidy_bh (o t m : Int) : tidyRow (bh o t m) = nx o t m :=
  rising_eq (tidyRow_rises _) (nx_rises ..) fun x => by rw [mem_tidyRow, mem_nx]

theorem bh_length (o t m : Int) : (bh o t m).length ≤ 2 := by
  unfold bh
  repeat' split
  all_goals simp

theorem nxt_length (n : Nat) (O T : Nat → Int) (i : Int) : (nxt n O T i).length ≤ 2 := by
  unfold nxt nx
  repeat' split
  all_goals simp

theorem St.alloc {w : World} {pb base : Nat} {l : List Int} (h : St w pb base l) (o : Obj) : St (w.alloc o) pb base l := by
  obtain ⟨v, h1, h2⟩ := h
  exact ⟨v, h1.alloc o, own_keep h2 fun g _ hg _ => Below.heap_alloc _ _ _ hg⟩

set_option maxRecDepth 100000 in
set_option maxHeartbeats 1000000 in
theorem behind_any (w : World) (pb base : Nat) (o x y z t m : Int) (hs : St w pb base []) (hpb : pb < base) (hb : base ≤ w.heap.size) :
    Calls Try.prog 28 #[.agg #[.int .i64 o, .int .i64 x, .int .i64 y, .int .i64 z, .int .i64 t], .int .i64 m, .func (.func 29) #[] #[.pointer (some ⟨pb, 0, none⟩)]] w
      fun e w' => e = .returned (.tuple #[]) ∧ St w' pb base (bh o t m) ∧ Keeps (fun k => k < base ∧ k ≠ pb) w w' := by
  have HK := Lib.hid (fun W l a (h1 : St W pb base l) (h2 : base ≤ W.heap.size) (h3 : l.length ≤ 1000) => keep_any W pb base a l h1 hpb h2 h3)
  have HE := Lib.hid (opEnds_any o)
  obtain ⟨W1, hW1⟩ : ∃ W1, w.alloc (.cells #[.int .i64 o, .int .i64 x, .int .i64 y, .int .i64 z, .int .i64 t] 39) = W1 := ⟨_, rfl⟩
  have HS1 := Lib.hid (show St W1 pb base [] by rw [← hW1]; exact hs.alloc _)
  have HZ1 := Lib.hid (show base ≤ W1.heap.size by rw [← hW1]; simp; omega)
  have HX1 := Lib.hid (show Keeps (fun k => k < base ∧ k ≠ pb) w W1 by rw [← hW1]; exact (Keeps.refl _ w).alloc _)
  have hc := (Blk.new w 39 #[.int .i64 o, .int .i64 x, .int .i64 y, .int .i64 z, .int .i64 t]).cell
  rw [hW1] at hc
  have c0 : W1.cell? ⟨w.heap.size, 0, none⟩ = some (.int .i64 o) := hc 0
  have c4 : W1.cell? ⟨w.heap.size, 4, none⟩ = some (.int .i64 t) := hc 4
  clear hc hs hpb hb
  by_cases h12 : o = 12
  · subst h12
    have hx : bh 12 t m = [t, m] := rfl
    rw [hx]
    clear hx HE
    go_enter Try.func28, Try.ntmps28
    go_wp2_with (go_at_call 29; first | (refine (HK.out W1 [] t HS1.out HZ1.out (by simp)).mono ?_; rintro e w2 ⟨rfl, hs2, hk2⟩; have HS2 := Lib.hid hs2; have HK2 := Lib.hid hk2; have HZ2 := Lib.hid (Nat.le_trans HZ1.out hk2.size); clear hs2 hk2 HS1 HZ1) | (refine (HK.out _ [t] m HS2.out HZ2.out (by simp)).mono ?_; rintro e w3 ⟨rfl, hs3, hk3⟩; have HS3 := Lib.hid hs3; have HK3 := Lib.hid hk3; clear hs3 hk3))
    go_end0
    exact ⟨rfl, HS3.out, (HX1.out.trans HK2.out).trans HK3.out⟩
  · by_cases h11 : o = 11
    · subst h11
      have hx : bh 11 t m = [t] := rfl
      have hE : enV 11 = true := rfl
      rw [hE] at HE
      rw [hx]
      clear hx hE
      go_enter Try.func28, Try.ntmps28
      go_wp2_with (first | (go_at_call 34; refine (HE.out _).mono ?_; rintro e w9 ⟨rfl, rfl⟩) | (go_at_call 29; refine (HK.out W1 [] t HS1.out HZ1.out (by simp)).mono ?_; rintro e w2 ⟨rfl, hs2, hk2⟩; have HS2 := Lib.hid hs2; have HK2 := Lib.hid hk2; clear hs2 hk2))
      go_end0
      exact ⟨rfl, HS2.out, HX1.out.trans HK2.out⟩
    · have k12 : (o == 12) = false := by simpa using h12
      have k11 : (o == 11) = false := by simpa using h11
      by_cases h22 : o = 22 ∨ o = 24
      · have hx : bh o t m = [] := by unfold bh; rw [if_neg h12, if_neg h11, if_pos h22]
        have hE : enV o = true := by unfold enV; simp; omega
        rw [hE] at HE
        rw [hx]
        clear hx hE h22 h11 h12
        go_enter Try.func28, Try.ntmps28
        go_wp2_with (go_at_call 34; refine (HE.out _).mono ?_; rintro e w9 ⟨rfl, rfl⟩)
        go_end0
        exact ⟨rfl, HS1.out, HX1.out⟩
      · have hx : bh o t m = [m] := by unfold bh; rw [if_neg h12, if_neg h11, if_neg h22]
        have hE : enV o = false := by unfold enV; simp; omega
        rw [hE] at HE
        rw [hx]
        clear hx hE h22 h11 h12
        go_enter Try.func28, Try.ntmps28
        go_wp2_with (first | (go_at_call 34; refine (HE.out _).mono ?_; rintro e w9 ⟨rfl, rfl⟩) | (go_at_call 29; refine (HK.out W1 [] m HS1.out HZ1.out (by simp)).mono ?_; rintro e w2 ⟨rfl, hs2, hk2⟩; have HS2 := Lib.hid hs2; have HK2 := Lib.hid hk2; clear hs2 hk2))
        go_end0
        exact ⟨rfl, HS2.out, HX1.out.trans HK2.out⟩

theorem own_less {w : World} {base base' n k : Nat} {v : Value} {xs : List Value} {e : TypeId} (h : w.ownsRow base e k v n xs) (hb : base' ≤ base) : w.ownsRow base' e k v n xs := by
  obtain ⟨h1, h2⟩ := h
  refine ⟨h1, ?_⟩
  rcases h2 with h2 | ⟨g, cap, cur, hv, h3, r⟩
  · exact .inl h2
  · exact .inr ⟨g, cap, cur, hv, Nat.le_trans hb h3, r⟩

/-- A row of numbers of the call's own. -/
def Rw (w' : World) (base : Nat) (v : Value) (l : List Int) : Prop := ∃ A c, v = .slice A l.length c ∧ w'.ownsRow base 3 1 (.slice A l.length c) l.length (ints l)

set_option maxRecDepth 100000 in
set_option maxHeartbeats 1000000 in
theorem next_any (w : World) (A : Option Addr) (n c : Nat) (O T : Nat → Int) (h : Cd w w.heap.size A n c O T) (i : Int) :
    Calls Try.prog 23 #[.slice A n c, .int .i64 i] w fun e w' => ∃ v, e = .returned v ∧ Rw w' w.heap.size v (nxt n O T i) ∧ Below w.heap.size w w' := by
  have HP := Lib.hid (place_any A n c i)
  by_cases hp : 0 ≤ i ∧ i < n
  · obtain ⟨k, rfl⟩ : ∃ k : Nat, i = (k : Int) := ⟨i.toNat, by omega⟩
    have hkn : k < n := by omega
    have hnl : n ≤ maxLen := Nat.le_trans h.1 h.2.1
    unfold maxLen at hnl
    have hkI : (k : Int) < (n : Int) := by omega
    have hk9 : (k : Int) < 9223372036854775807 := by omega
    have hd0 : decide (0 ≤ (k : Int)) = true := by simp
    have hd1 : decide ((k : Int) < (n : Int)) = true := by simpa using hkI
    rw [hd0, hd1, Bool.and_self] at HP
    have hx : nxt n O T (k : Int) = tidyRow (bh (O k) (T k) ((k : Int) + 1)) := by
      unfold nxt; rw [if_pos hp, tidy_bh]; rfl
    have hl2 := bh_length (O k) (T k) ((k : Int) + 1)
    obtain ⟨W1, hW1⟩ : ∃ W1, w.alloc (.cells #[.slice none 0 0] 22) = W1 := ⟨_, rfl⟩
    have hB1 : Below w.heap.size w W1 := by rw [← hW1]; exact (Below.refl _ w).alloc (Nat.le_refl _) _
    obtain ⟨ad, x, y, z, rfl, hab, c0, c1, c2, c3, c4⟩ := (h.below hB1).at_ hkn
    have hz1 : W1.heap.size = w.heap.size + 1 := by rw [← hW1]; simp
    have hS1 : St W1 w.heap.size (w.heap.size + 1) [] := ⟨.slice none 0 0, by rw [← hW1]; exact Blk.new w _ _, World.ownsRow_nil _ _ _ _⟩
    have HBH := Lib.hid (behind_any W1 w.heap.size (w.heap.size + 1) (O k) x y z (T k) ((k : Int) + 1) hS1 (by omega) (by omega))
    rw [hx]
    generalize bh (O k) (T k) ((k : Int) + 1) = L at hl2 HBH ⊢
    generalize O k = o at c0 HBH
    generalize T k = t at c4 HBH
    have HL := Lib.hid hl2
    have HB1 := Lib.hid hB1
    have HZ1 := Lib.hid hz1
    have HSO := Lib.hid (fun W v (l : List Int) (h1 : W.ownsRow (w.heap.size + 1) 3 1 v l.length (ints l)) (h2 : l.length ≤ 1000000) => sort_own W (w.heap.size + 1) v l h1 h2)
    have HCO := Lib.hid (fun W v (l : List Int) (h1 : W.ownsRow (w.heap.size + 1) 3 1 v l.length (ints l)) => compact_own W (w.heap.size + 1) v l h1)
    clear hx hp h hS1 hl2 hB1 hz1 hab hd0 hd1 hnl
    go_enter Try.func23, Try.ntmps23
    go_wp2_with (first
      | (go_at_call 27; refine (HP.out _).mono ?_; rintro e w9 ⟨rfl, rfl⟩)
      | (go_at_call 28; refine HBH.out.mono ?_; rintro e w2 ⟨rfl, ⟨v2, hb2, ho2⟩, hk2⟩; have hc2 : w2.cell? ⟨w.heap.size, 0, none⟩ = some v2 := hb2.cell 0; have HB2 := Lib.hid hb2; have HO2 := Lib.hid ho2; have HK2 := Lib.hid hk2; clear hb2 ho2 hk2 c0 c1 c2 c3 c4)
      | (go_at_call 30; refine (HSO.out w2 v2 L HO2.out (by have := HL.out; omega)).mono ?_; rintro e w3 ⟨rfl, ho3, hg3⟩; have hc3 : w3.cell? ⟨w.heap.size, 0, none⟩ = some v2 := (World.cell?_of_block (hg3.block w.heap.size HB2.out.lt (fun e => by have := (HO2.out.lt _ e.symm).1; omega))).trans hc2; have HO3 := Lib.hid ho3; have HG3 := Lib.hid hg3; clear ho3 hg3 hc2)
      | (go_at_call 31; refine (HCO.out w3 v2 _ HO3.out).mono ?_; rintro e w4 ⟨A', c', rfl, ho4, hg4, hob⟩; have HO4 := Lib.hid ho4; have HG4 := Lib.hid hg4; clear ho4 hg4 hob))
    go_ret
    refine ⟨_, rfl, ⟨A', c', rfl, own_less HO4.out (by omega)⟩, ?_⟩
    have hob : ∀ r, v2.ownBlock = some r → w.heap.size ≤ r := fun r e => by have := (HO2.out.lt r e).1; omega
    have b2 : Below w.heap.size w w2 := HB1.out.trans (HK2.out.below (by have := HZ1.out; omega) (fun k hk => by omega))
    have b3 : Below w.heap.size w w3 := b2.grown HG3.out b2.size hob
    exact b3.grown HG4.out b3.size hob
  · have hx : nxt n O T i = [] := by unfold nxt; rw [if_neg hp]
    have hd : (decide (0 ≤ i) && decide (i < (n : Int))) = false := by
      rw [Bool.and_eq_false_iff, decide_eq_false_iff_not, decide_eq_false_iff_not]; omega
    rw [hd] at HP
    rw [hx]
    clear hp hx hd h
    go_enter Try.func23, Try.ntmps23
    go_wp2_with (go_at_call 27; refine (HP.out _).mono ?_; rintro e w9 ⟨rfl, rfl⟩)
    go_ret
    exact ⟨_, rfl, ⟨none, 0, rfl, World.ownsRow_nil _ _ _ _⟩, Below.refl _ _⟩
end Go.Proofs.Ythkbdclnnpcoiaa.By
