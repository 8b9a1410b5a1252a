/-
  WALKS of layer 14: what comes behind an instruction: behind, Next. WALKS of layer 14: the document's own Next. WALKS of layer 14: graphs of code, and the document's own. WALKS of layer 14: the document's own Graph.
-/
import Derived.Test.YtbknmapkdjmcjaaGreatDoorUa
namespace Go.Proofs.YtbknmapkdjmcjaaGreatDoor.By
open Go.RowKit
open Mem Gm Rf

def bh (o t m : Int) : List Int := if o = 12 then [t, m] else if o = 11 then [t] else if o = 22 ∨ o = 24 then [] else [m]
/-- What comes behind an instruction. -/
def nx (o t m : Int) : List Int := if o = 11 then [t] else if o = 22 ∨ o = 24 then [] else if o ≠ 12 ∨ t = m then [m] else if t < m then [t, m] else [m, t]
def nxt (n : Nat) (O T : Nat → Int) (i : Int) : List Int := if 0 ≤ i ∧ i < n then nx (O i.toNat) (T i.toNat) (i + 1) else []

theorem nx_rises (o t m : Int) : (nx o t m).Pairwise (· < ·) := by
  unfold nx
  repeat' split
  all_goals simp
  all_goals omega

theorem mem_nx (o t m x : Int) : x ∈ nx o t m ↔ x ∈ bh o t m := by
  unfold nx bh
  by_cases h1 : o = 11
  · subst h1; simp
  · by_cases h2 : o = 22 ∨ o = 24
    · have : o ≠ 12 := by omega
      simp [h1, h2, this]
    · by_cases h3 : o = 12
      · subst h3
        by_cases h4 : t = m
        · subst h4; simp
        · by_cases h5 : t < m
          · simp [h4, h5]
          · simp [h4, h5, or_comm]
      · simp [h1, h2, h3]

theorem tidy_bh (o t m : Int) : tidyRow (bh o t m) = nx o t m :=
  rising_eq (tidyRow_rises _) (nx_rises ..) fun x => by rw [mem_tidyRow, mem_nx]

theorem bh_length (o t m : Int) : (bh o t m).length ≤ 2 := by
  unfold bh
  repeat' split
  all_goals simp

theorem nxt_length (n : Nat) (O T : Nat → Int) (i : Int) : (nxt n O T i).length ≤ 2 := by
  unfold nxt nx
  repeat' split
  all_goals simp

theorem St.alloc {w : World} {pb base : Nat} {l : List Int} (h : St w pb base l) (o : Obj) : St (w.alloc o) pb base l := by
  obtain ⟨v, h1, h2⟩ := h
  exact ⟨v, h1.alloc o, own_keep h2 fun g _ hg _ => Below.heap_alloc _ _ _ hg⟩

set_option maxRecDepth 100000 in
set_option maxHeartbeats 1000000 in
theorem behind_any (w : World) (pb base : Nat) (o x y z t m : Int) (hs : St w pb base []) (hpb : pb < base) (hb : base ≤ w.heap.size) :
    Calls Tryz.prog 310 #[.agg #[.int .i64 o, .int .i64 x, .int .i64 y, .int .i64 z, .int .i64 t], .int .i64 m, .func (.func 311) #[] #[.pointer (some ⟨pb, 0, none⟩)]] w
      fun e w' => e = .returned (.tuple #[]) ∧ St w' pb base (bh o t m) ∧ Keeps (fun k => k < base ∧ k ≠ pb) w w' := by
  have HK := Lib.hid (fun W l a (h1 : St W pb base l) (h2 : base ≤ W.heap.size) (h3 : l.length ≤ 1000) => keep_any W pb base a l h1 hpb h2 h3)
  have HE := Lib.hid (opEnds_any o)
  obtain ⟨W1, hW1⟩ : ∃ W1, w.alloc (.cells #[.int .i64 o, .int .i64 x, .int .i64 y, .int .i64 z, .int .i64 t] 94) = W1 := ⟨_, rfl⟩
  have HS1 := Lib.hid (show St W1 pb base [] by rw [← hW1]; exact hs.alloc _)
  have HZ1 := Lib.hid (show base ≤ W1.heap.size by rw [← hW1]; simp; omega)
  have HX1 := Lib.hid (show Keeps (fun k => k < base ∧ k ≠ pb) w W1 by rw [← hW1]; exact (Keeps.refl _ w).alloc _)
  have hc := (Blk.new w 94 #[.int .i64 o, .int .i64 x, .int .i64 y, .int .i64 z, .int .i64 t]).cell
  rw [hW1] at hc
  have c0 : W1.cell? ⟨w.heap.size, 0, none⟩ = some (.int .i64 o) := hc 0
  have c4 : W1.cell? ⟨w.heap.size, 4, none⟩ = some (.int .i64 t) := hc 4
  clear hc hs hpb hb
  by_cases h12 : o = 12
  · subst h12
    have hx : bh 12 t m = [t, m] := rfl
    rw [hx]
    clear hx HE
    go_enter Tryz.func310, Tryz.ntmps310
    go_wp2_with (go_at_call 311; first | (refine (HK.out W1 [] t HS1.out HZ1.out (by simp)).mono ?_; rintro e w2 ⟨rfl, hs2, hk2⟩; have HS2 := Lib.hid hs2; have HK2 := Lib.hid hk2; have HZ2 := Lib.hid (Nat.le_trans HZ1.out hk2.size); clear hs2 hk2 HS1 HZ1) | (refine (HK.out _ [t] m HS2.out HZ2.out (by simp)).mono ?_; rintro e w3 ⟨rfl, hs3, hk3⟩; have HS3 := Lib.hid hs3; have HK3 := Lib.hid hk3; clear hs3 hk3))
    go_end0
    exact ⟨rfl, HS3.out, (HX1.out.trans HK2.out).trans HK3.out⟩
  · by_cases h11 : o = 11
    · subst h11
      have hx : bh 11 t m = [t] := rfl
      have hE : enV 11 = true := rfl
      rw [hE] at HE
      rw [hx]
      clear hx hE
      go_enter Tryz.func310, Tryz.ntmps310
      go_wp2_with (first | (go_at_call 331; refine (HE.out _).mono ?_; rintro e w9 ⟨rfl, rfl⟩) | (go_at_call 311; refine (HK.out W1 [] t HS1.out HZ1.out (by simp)).mono ?_; rintro e w2 ⟨rfl, hs2, hk2⟩; have HS2 := Lib.hid hs2; have HK2 := Lib.hid hk2; clear hs2 hk2))
      go_end0
      exact ⟨rfl, HS2.out, HX1.out.trans HK2.out⟩
    · have k12 : (o == 12) = false := by simpa using h12
      have k11 : (o == 11) = false := by simpa using h11
      by_cases h22 : o = 22 ∨ o = 24
      · have hx : bh o t m = [] := by unfold bh; rw [if_neg h12, if_neg h11, if_pos h22]
        have hE : enV o = true := by unfold enV; simp; omega
        rw [hE] at HE
        rw [hx]
        clear hx hE h22 h11 h12
        go_enter Tryz.func310, Tryz.ntmps310
        go_wp2_with (go_at_call 331; refine (HE.out _).mono ?_; rintro e w9 ⟨rfl, rfl⟩)
        go_end0
        exact ⟨rfl, HS1.out, HX1.out⟩
      · have hx : bh o t m = [m] := by unfold bh; rw [if_neg h12, if_neg h11, if_neg h22]
        have hE : enV o = false := by unfold enV; simp; omega
        rw [hE] at HE
        rw [hx]
        clear hx hE h22 h11 h12
        go_enter Tryz.func310, Tryz.ntmps310
        go_wp2_with (first | (go_at_call 331; refine (HE.out _).mono ?_; rintro e w9 ⟨rfl, rfl⟩) | (go_at_call 311; refine (HK.out W1 [] m HS1.out HZ1.out (by simp)).mono ?_; rintro e w2 ⟨rfl, hs2, hk2⟩; have HS2 := Lib.hid hs2; have HK2 := Lib.hid hk2; clear hs2 hk2))
        go_end0
        exact ⟨rfl, HS2.out, HX1.out.trans HK2.out⟩

theorem own_less {w : World} {base base' n k : Nat} {v : Value} {xs : List Value} {e : TypeId} (h : w.ownsRow base e k v n xs) (hb : base' ≤ base) : w.ownsRow base' e k v n xs := by
  obtain ⟨h1, h2⟩ := h
  refine ⟨h1, ?_⟩
  rcases h2 with h2 | ⟨g, cap, cur, hv, h3, r⟩
  · exact .inl h2
  · exact .inr ⟨g, cap, cur, hv, Nat.le_trans hb h3, r⟩

/-- A row of numbers of the call's own. -/
def Rw (w' : World) (base : Nat) (v : Value) (l : List Int) : Prop := ∃ A c, v = .slice A l.length c ∧ w'.ownsRow base 3 1 (.slice A l.length c) l.length (ints l)

set_option maxRecDepth 100000 in
set_option maxHeartbeats 1000000 in
theorem next_any (w : World) (A : Option Addr) (n c : Nat) (O T : Nat → Int) (h : Cd w w.heap.size A n c O T) (i : Int) :
    Calls Tryz.prog 278 #[.slice A n c, .int .i64 i] w fun e w' => ∃ v, e = .returned v ∧ Rw w' w.heap.size v (nxt n O T i) ∧ Below w.heap.size w w' := by
  have HP := Lib.hid (fplace_any A n c i)
  by_cases hp : 0 ≤ i ∧ i < n
  · obtain ⟨k, rfl⟩ : ∃ k : Nat, i = (k : Int) := ⟨i.toNat, by omega⟩
    have hkn : k < n := by omega
    have hnl : n ≤ maxLen := Nat.le_trans h.1 h.2.1
    unfold maxLen at hnl
    have hkI : (k : Int) < (n : Int) := by omega
    have hk9 : (k : Int) < 9223372036854775807 := by omega
    have hd0 : decide (0 ≤ (k : Int)) = true := by simp
    have hd1 : decide ((k : Int) < (n : Int)) = true := by simpa using hkI
    rw [hd0, hd1, Bool.and_self] at HP
    have hx : nxt n O T (k : Int) = tidyRow (bh (O k) (T k) ((k : Int) + 1)) := by
      unfold nxt; rw [if_pos hp, tidy_bh]; rfl
    have hl2 := bh_length (O k) (T k) ((k : Int) + 1)
    obtain ⟨W1, hW1⟩ : ∃ W1, w.alloc (.cells #[.slice none 0 0] 22) = W1 := ⟨_, rfl⟩
    have hB1 : Below w.heap.size w W1 := by rw [← hW1]; exact (Below.refl _ w).alloc (Nat.le_refl _) _
    obtain ⟨ad, x, y, z, rfl, hab, c0, c1, c2, c3, c4⟩ := (h.below hB1).at_ hkn
    have hz1 : W1.heap.size = w.heap.size + 1 := by rw [← hW1]; simp
    have hS1 : St W1 w.heap.size (w.heap.size + 1) [] := ⟨.slice none 0 0, by rw [← hW1]; exact Blk.new w _ _, World.ownsRow_nil _ _ _ _⟩
    have HBH := Lib.hid (behind_any W1 w.heap.size (w.heap.size + 1) (O k) x y z (T k) ((k : Int) + 1) hS1 (by omega) (by omega))
    rw [hx]
    generalize bh (O k) (T k) ((k : Int) + 1) = L at hl2 HBH ⊢
    generalize O k = o at c0 HBH
    generalize T k = t at c4 HBH
    have HL := Lib.hid hl2
    have HB1 := Lib.hid hB1
    have HZ1 := Lib.hid hz1
    have HSO := Lib.hid (fun W v (l : List Int) (h1 : W.ownsRow (w.heap.size + 1) 3 1 v l.length (ints l)) (h2 : l.length ≤ 1000000) => sort_own W (w.heap.size + 1) v l h1 h2)
    have HCO := Lib.hid (fun W v (l : List Int) (h1 : W.ownsRow (w.heap.size + 1) 3 1 v l.length (ints l)) => compact_own W (w.heap.size + 1) v l h1)
    clear hx hp h hS1 hl2 hB1 hz1 hab hd0 hd1 hnl
    go_enter Tryz.func278, Tryz.ntmps278
    go_wp2_with (first
      | (go_at_call 215; refine (HP.out _).mono ?_; rintro e w9 ⟨rfl, rfl⟩)
      | (go_at_call 310; refine HBH.out.mono ?_; rintro e w2 ⟨rfl, ⟨v2, hb2, ho2⟩, hk2⟩; have hc2 : w2.cell? ⟨w.heap.size, 0, none⟩ = some v2 := hb2.cell 0; have HB2 := Lib.hid hb2; have HO2 := Lib.hid ho2; have HK2 := Lib.hid hk2; clear hb2 ho2 hk2 c0 c1 c2 c3 c4)
      | (go_at_call 312; refine (HSO.out w2 v2 L HO2.out (by have := HL.out; omega)).mono ?_; rintro e w3 ⟨rfl, ho3, hg3⟩; have hc3 : w3.cell? ⟨w.heap.size, 0, none⟩ = some v2 := (World.cell?_of_block (hg3.block w.heap.size HB2.out.lt (fun e => by have := (HO2.out.lt _ e.symm).1; omega))).trans hc2; have HO3 := Lib.hid ho3; have HG3 := Lib.hid hg3; clear ho3 hg3 hc2)
      | (go_at_call 313; refine (HCO.out w3 v2 _ HO3.out).mono ?_; rintro e w4 ⟨A', c', rfl, ho4, hg4, hob⟩; have HO4 := Lib.hid ho4; have HG4 := Lib.hid hg4; clear ho4 hg4 hob))
    go_ret
    refine ⟨_, rfl, ⟨A', c', rfl, own_less HO4.out (by omega)⟩, ?_⟩
    have hob : ∀ r, v2.ownBlock = some r → w.heap.size ≤ r := fun r e => by have := (HO2.out.lt r e).1; omega
    have b2 : Below w.heap.size w w2 := HB1.out.trans (HK2.out.below (by have := HZ1.out; omega) (fun k hk => by omega))
    have b3 : Below w.heap.size w w3 := b2.grown HG3.out b2.size hob
    exact b3.grown HG4.out b3.size hob
  · have hx : nxt n O T i = [] := by unfold nxt; rw [if_neg hp]
    have hd : (decide (0 ≤ i) && decide (i < (n : Int))) = false := by
      rw [Bool.and_eq_false_iff, decide_eq_false_iff_not, decide_eq_false_iff_not]; omega
    rw [hd] at HP
    rw [hx]
    clear hp hx hd h
    go_enter Tryz.func278, Tryz.ntmps278
    go_wp2_with (go_at_call 215; refine (HP.out _).mono ?_; rintro e w9 ⟨rfl, rfl⟩)
    go_ret
    exact ⟨_, rfl, ⟨none, 0, rfl, World.ownsRow_nil _ _ _ _⟩, Below.refl _ _⟩
end Go.Proofs.YtbknmapkdjmcjaaGreatDoor.By

namespace Go.Proofs.YtbknmapkdjmcjaaGreatDoor.By
open Go.RowKit
open Mem Gm Rf

theorem own_lit (w : World) (base : Nat) (l : List Int) (hb : base ≤ w.heap.size) (hl : l.length ≤ maxLen) : (w.alloc (.cells (ints l).toArray 3)).ownsRow base 3 1 (.slice (some ⟨w.heap.size, 0, none⟩) l.length l.length) l.length (ints l) :=
  ⟨by simp [ints], .inr ⟨w.heap.size, l.length, _, rfl, hb, heap_alloc_new w _, Nat.le_refl _, hl, by simp [ints], by rw [Nat.mul_one, List.take_of_length_le (by simp [ints])]⟩⟩

def NAns (w : World) (l : List Int) (e : Ending) (w' : World) : Prop := ∃ v, e = .returned v ∧ Rw w' w.heap.size v l ∧ Below w.heap.size w w'

theorem nans_lit (w W : World) (l : List Int) (hb : Below w.heap.size w W) (hl : l.length ≤ 2) : NAns w l (.returned (.slice (some ⟨W.heap.size, 0, none⟩) l.length l.length)) (W.alloc (.cells (ints l).toArray 3)) :=
  ⟨_, rfl, ⟨_, _, rfl, own_lit W _ l hb.size (by unfold maxLen; omega)⟩, hb.alloc hb.size _⟩

theorem nans_nil (w W : World) (hb : Below w.heap.size w W) : NAns w [] (.returned (.slice none 0 0)) W :=
  ⟨_, rfl, ⟨none, 0, rfl, World.ownsRow_nil _ _ _ _⟩, hb⟩

set_option maxRecDepth 100000 in
set_option maxHeartbeats 2000000 in
theorem rnext_any (w : World) (A : Option Addr) (n c : Nat) (O T : Nat → Int) (h : Cd w w.heap.size A n c O T) (i : Int) :
    Calls Tryz.prog 225 #[.slice A n c, .int .i64 i] w (NAns w (nxt n O T i)) := by
  have hnl : n ≤ maxLen := Nat.le_trans h.1 h.2.1
  unfold maxLen at hnl
  by_cases hp : 0 ≤ i ∧ i < n
  · obtain ⟨k, rfl⟩ : ∃ k : Nat, i = (k : Int) := ⟨i.toNat, by omega⟩
    have hkn : k < n := by omega
    have hkI : (k : Int) < (n : Int) := by omega
    have hk9 : (k : Int) < 9223372036854775807 := by omega
    have hd0 : ¬ ((k : Int) < 0) := by omega
    have hd1 : ¬ ((n : Int) ≤ (k : Int)) := by omega
    have hx : nxt n O T (k : Int) = nx (O k) (T k) ((k : Int) + 1) := by
      unfold nxt; rw [if_pos hp]; rfl
    obtain ⟨ad, x, y, z, rfl, hab, c0, c1, c2, c3, c4⟩ := h.at_ hkn
    rw [hx]
    have HRE := Lib.hid (rends_free (O k))
    generalize O k = o at c0 HRE ⊢
    generalize T k = t at c4 ⊢
    obtain ⟨W1, hW1⟩ : ∃ W1, w.alloc (.cells #[.int .i64 o, .int .i64 x, .int .i64 y, .int .i64 z, .int .i64 t] 94) = W1 := ⟨_, rfl⟩
    have hB1 : Below w.heap.size w W1 := by rw [← hW1]; exact (Below.refl _ w).alloc (Nat.le_refl _) _
    have hz1 : w.heap.size < W1.heap.size := by rw [← hW1]; simp
    have hcs := (Blk.new w 94 #[.int .i64 o, .int .i64 x, .int .i64 y, .int .i64 z, .int .i64 t]).cell
    rw [hW1] at hcs
    have d0 : W1.cell? ⟨w.heap.size, 0, none⟩ = some (.int .i64 o) := hcs 0
    have d4 : W1.cell? ⟨w.heap.size, 4, none⟩ = some (.int .i64 t) := hcs 4
    have HB1 := Lib.hid hB1
    have HK := Lib.hid (show ∀ W', Below W1.heap.size W1 W' → W'.cell? ⟨w.heap.size, 0, none⟩ = some (.int .i64 o) from fun W' hb => (hb.cell hz1).trans d0)
    have HT := Lib.hid (show ∀ W', Below W1.heap.size W1 W' → Below w.heap.size w W' from fun W' hb => hB1.trans (hb.mono (by omega)))
    clear hx hp h hB1 hz1 hab hcs hnl
    by_cases h11 : o = 11
    · subst h11
      have hx : nx 11 t ((k : Int) + 1) = [t] := rfl
      rw [hx]
      clear hx
      go_enter Tryz.func225, Tryz.ntmps225
      go_wp2_with fail
      go_ret
      exact nans_lit w W1 [t] HB1.out (by simp)
    · have k11 : (o == 11) = false := by simpa using h11
      by_cases h22 : o = 22 ∨ o = 24
      · have hx : nx o t ((k : Int) + 1) = [] := by unfold nx; rw [if_neg h11, if_pos h22]
        have hE : enV o = true := by unfold enV; simp; omega
        rw [hE] at HRE
        rw [hx]
        clear hx hE h22 h11
        go_enter Tryz.func225, Tryz.ntmps225
        go_wp2_with (go_at_call 280; refine (HRE.out _).mono ?_; rintro e w2 ⟨rfl, hb2⟩; have HB2 := Lib.hid (HT.out _ hb2); clear hb2)
        go_ret
        exact nans_nil w w2 HB2.out
      · have hE : enV o = false := by unfold enV; simp; omega
        rw [hE] at HRE
        have hx : nx o t ((k : Int) + 1) = if o ≠ 12 ∨ t = (k : Int) + 1 then [(k : Int) + 1] else if t < (k : Int) + 1 then [t, (k : Int) + 1] else [(k : Int) + 1, t] := by unfold nx; rw [if_neg h11, if_neg h22]
        rw [hx]
        clear hx hE
        by_cases h12 : o = 12
        · subst h12
          by_cases ht : t = (k : Int) + 1
          · rw [if_pos (.inr ht)]
            have e1 : (t == (k : Int) + 1) = true := by simpa using ht
            clear ht
            go_enter Tryz.func225, Tryz.ntmps225
            go_wp2_with (go_at_call 280; refine (HRE.out _).mono ?_; rintro e w2 ⟨rfl, hb2⟩; have HB2 := Lib.hid (HT.out _ hb2); have d2 := HK.out _ hb2; clear hb2)
            go_ret
            exact nans_lit w w2 [(k : Int) + 1] HB2.out (by simp)
          · rw [if_neg (by omega)]
            have e1 : (t == (k : Int) + 1) = false := by simpa using ht
            by_cases htl : t < (k : Int) + 1
            · rw [if_pos htl]
              have e2 : decide (t < (k : Int) + 1) = true := by simpa using htl
              clear ht htl
              go_enter Tryz.func225, Tryz.ntmps225
              go_wp2_with (go_at_call 280; refine (HRE.out _).mono ?_; rintro e w2 ⟨rfl, hb2⟩; have HB2 := Lib.hid (HT.out _ hb2); have d2 := HK.out _ hb2; clear hb2)
              go_ret
              exact nans_lit w w2 [t, (k : Int) + 1] HB2.out (by simp)
            · rw [if_neg htl]
              have e2 : decide (t < (k : Int) + 1) = false := by simpa using htl
              clear ht htl
              go_enter Tryz.func225, Tryz.ntmps225
              go_wp2_with (go_at_call 280; refine (HRE.out _).mono ?_; rintro e w2 ⟨rfl, hb2⟩; have HB2 := Lib.hid (HT.out _ hb2); have d2 := HK.out _ hb2; clear hb2)
              go_ret
              exact nans_lit w w2 [(k : Int) + 1, t] HB2.out (by simp)
        · rw [if_pos (.inl h12)]
          have k12 : (o != 12) = true := by simpa using h12
          clear h11 h12 h22
          go_enter Tryz.func225, Tryz.ntmps225
          go_wp2_with (go_at_call 280; refine (HRE.out _).mono ?_; rintro e w2 ⟨rfl, hb2⟩; have HB2 := Lib.hid (HT.out _ hb2); have d2 := HK.out _ hb2; clear hb2)
          go_ret
          exact nans_lit w w2 [(k : Int) + 1] HB2.out (by simp)
  · have hx : nxt n O T i = [] := by unfold nxt; rw [if_neg hp]
    rw [hx]
    have hd : decide (i < 0) = true ∨ (decide (i < 0) = false ∧ decide ((n : Int) ≤ i) = true) := by
      by_cases h0 : i < 0
      · exact .inl (by simpa using h0)
      · exact .inr ⟨by simpa using h0, by simp; omega⟩
    clear hp hx h hnl
    rcases hd with hd | ⟨hd, hd2⟩
    · go_enter Tryz.func225, Tryz.ntmps225
      go_wp2_with fail
      go_ret
      exact nans_nil w w (Below.refl _ _)
    · go_enter Tryz.func225, Tryz.ntmps225
      go_wp2_with fail
      go_ret
      exact nans_nil w w (Below.refl _ _)
end Go.Proofs.YtbknmapkdjmcjaaGreatDoor.By

namespace Go.Proofs.YtbknmapkdjmcjaaGreatDoor.By
open Go.RowKit
open Mem Gm Rf

def arrN (N : Nat) (f : Nat → Value) : Array Value := ((List.range N).map f).toArray
theorem arrN_size (N : Nat) (f : Nat → Value) : (arrN N f).size = N := by simp [arrN]
theorem arrN_at {N : Nat} (f : Nat → Value) {i : Nat} (h : i < N) : (arrN N f)[i]? = some (f i) := by simp [arrN, h]
theorem arrN_set {N : Nat} (f : Nat → Value) (i : Nat) (u : Value) : (arrN N f).setIfInBounds i u = arrN N (fun j => if j = i then u else f j) := by
  apply Array.ext
  · simp [arrN]
  · intro j h1 h2
    have hj : j < N := by simpa [arrN] using h2
    rw [Array.getElem_setIfInBounds (by rw [arrN_size]; exact hj)]
    by_cases e : i = j
    · subst e; simp [arrN]
    · have e2 : ¬ j = i := fun h => e h.symm
      simp [arrN, e, e2]
theorem arrN_rep (N : Nat) (u : Value) : Array.replicate N u = arrN N fun _ => u := by
  apply Array.ext
  · simp [arrN]
  · intro j h1 h2; simp [arrN]

theorem wpList_append_wh {P : Program} (w : World) {ops : Array Oper} {rest : List Oper} {o : Oper} {a : Act} {Q : Exit → Act → World → Prop} (hgd : o.guard = none) (s x : Operand) (t : TypeId)
    (ho : o.op = .call { callee := .builtin .append, args := #[s, x], argTypes := #[t, t] })
    (base : Nat) (e : TypeId) (i : TypeInfo) (z : Value) (size bytes : Nat) (ht : P.underlying t = some (.slice e)) (hi : P.info? e = some i) (hz : i.zero = some z)
    (hsize : i.size = size) (hby : i.bytes = bytes) (hzs : z.cells.size = size) (hsz : 0 < size)
    (v : Value) (n : Nat) (xs : List Value) (hs : a.eval s = v) (hown : w.ownsRow base e size v n xs)
    (ad : Addr) (m c : Nat) (news : List Value) (hm : 0 < m) (hx : a.eval x = .slice (some ad) m c) (hl : news.length = m * size) (hnews : ∀ j u, news[j]? = some u → w.cell? (ad.add j) = some u) (h1 : ∀ u ∈ news, u.oneCell' = true)
    (h63 : n + m ≤ maxLen) (hbytes : (n + m) * bytes ≤ 140737488355328) (hbase : base ≤ w.heap.size)
    (h : ∀ v' w', w'.ownsRow base e size v' (n + m) (xs ++ news) → w.grownBy w' v.ownBlock → (v'.ownBlock = v.ownBlock ∨ v'.ownBlock = some w.heap.size) → wpList P ops Q rest (a.put o.dst v') w') : wpList P ops Q (o :: rest) a w :=
  wpList_plain hgd fun _ hK => by
    obtain ⟨v', w', hr, h2, h3, _⟩ := run_append_own (P := P) w base t o.type e i z size bytes ht hi hz hsize hby hzs hsz v n xs hown ad m c news hl hnews h1 h63 hbytes hbase
    have h5 := append_where (P := P) w base t o.type e i z size bytes ht hi hz hsize hby v n xs hown ad m c news hm hl hnews h1 h63 hbytes hr
    unfold Oper.wp execOp
    simp only [ho, resolve, invoke, builtin, Sem.run_bind, Sem.run_pure, Result.andThen_ok, List.map_toArray, List.map_cons, List.map_nil, hs, hx, hr]
    exact hK _ _ (h v' w' h2 h3 h5)

/-- The graph of some code. -/
def gph (n : Nat) (O T : Nat → Int) : List (List Int) := (List.range n).map fun (i : Nat) => nxt n O T (i : Int)
theorem gph_length (n : Nat) (O T : Nat → Int) : (gph n O T).length = n := by simp [gph]
theorem gph_row {n : Nat} (O T : Nat → Int) {i : Nat} (hi : i < n) : rowOf (gph n O T) i = nxt n O T (i : Int) := by
  unfold rowOf gph
  rw [List.getD_eq_getElem?_getD, List.getElem?_map, List.getElem?_range hi]; rfl

theorem Rw.keep {W W' : World} {base : Nat} {v : Value} {l : List Int} (h : Rw W base v l) (hk : ∀ g, base ≤ g → g < W.heap.size → v.ownBlock = some g → W'.heap[g]? = W.heap[g]?) : Rw W' base v l := by
  obtain ⟨A, c, rfl, ho⟩ := h
  exact ⟨A, c, rfl, own_keep ho hk⟩
theorem Rw.below {W W' : World} {base : Nat} {v : Value} {l : List Int} (h : Rw W base v l) (hb : Below W.heap.size W W') : Rw W' base v l := h.keep fun g _ hg _ => hb.block g hg
theorem Rw.less {W : World} {base base' : Nat} {v : Value} {l : List Int} (h : Rw W base v l) (hb : base' ≤ base) : Rw W base' v l := by
  obtain ⟨A, c, rfl, ho⟩ := h
  exact ⟨A, c, rfl, own_less ho hb⟩
theorem Rw.lt {W : World} {base : Nat} {v : Value} {l : List Int} (h : Rw W base v l) {g : Nat} (hg : v.ownBlock = some g) : base ≤ g ∧ g < W.heap.size := by
  obtain ⟨A, c, rfl, ho⟩ := h
  exact ho.lt g hg
theorem Rw.slv {W : World} {base : Nat} {v : Value} {l : List Int} (h : Rw W base v l) : ∃ A c, v = .slice A l.length c ∧ SlV W W.heap.size v (ints l) := by
  obtain ⟨A, c, rfl, ho⟩ := h
  exact ⟨A, c, rfl, SlV.of_own ho⟩

def GAns (w : World) (g : List (List Int)) (e : Ending) (w' : World) : Prop := ∃ A c, e = .returned (.slice A g.length c) ∧ Gr w' w'.heap.size (.slice A g.length c) g ∧ Below w.heap.size w w'

/-- The first k rows lie in a block of the call's own. -/
def GS (W : World) (rb n k : Nat) (F : Nat → List Int) : Prop :=
  ∃ rs : Nat → Value, Blk W rb 22 (arrN n fun i => if i < k then rs i else .slice none 0 0) ∧ ∀ i, i < k → Rw W (rb + 1) (rs i) (F i)

theorem GS.below {W W' : World} {rb n k : Nat} {F : Nat → List Int} (h : GS W rb n k F) (hb : Below W.heap.size W W') : GS W' rb n k F := by
  obtain ⟨rs, h1, h2⟩ := h
  exact ⟨rs, h1.below hb h1.lt, fun i hi => (h2 i hi).below hb⟩

theorem GS.lt {W : World} {rb n k : Nat} {F : Nat → List Int} (h : GS W rb n k F) : rb + 1 ≤ W.heap.size := by
  obtain ⟨rs, h1, _⟩ := h
  exact h1.lt

theorem GS.store {W : World} {rb n k : Nat} {F : Nat → List Int} {v : Value} (h : GS W rb n k F) (hk : k < n) (hv : Rw W (rb + 1) v (F k)) : GS (W.setCell ⟨rb, k, none⟩ v) rb n (k + 1) F := by
  obtain ⟨rs, h1, h2⟩ := h
  have hkeep : ∀ i u, Rw W (rb + 1) u (F i) → Rw (W.setCell ⟨rb, k, none⟩ v) (rb + 1) u (F i) := fun i u hu => hu.keep fun g hg _ _ => Below.heap_setCell _ ⟨rb, k, none⟩ _ g (by show g ≠ rb; omega)
  refine ⟨fun i => if i = k then v else rs i, ?_, fun i hi => ?_⟩
  · have h3 := h1.stored k v
    rw [arrN_set] at h3
    have e : (fun (i : Nat) => if i = k then v else if i < k then rs i else Value.slice none 0 0) = fun i => if i < k + 1 then (if i = k then v else rs i) else .slice none 0 0 := by
      funext i
      by_cases e : i = k
      · subst e; simp
      · by_cases e2 : i < k
        · rw [if_neg e, if_pos e2, if_pos (by omega), if_neg e]
        · rw [if_neg e, if_neg e2, if_neg (by omega)]
    rw [e] at h3
    exact h3
  · by_cases e : i = k
    · subst e
      show Rw _ _ (if i = i then v else rs i) _
      rw [if_pos rfl]; exact hkeep i v hv
    · show Rw _ _ (if i = k then v else rs i) _
      rw [if_neg e]; exact hkeep i _ (h2 i (by omega))

theorem GS.gr {W : World} {rb n : Nat} {O T : Nat → Int} (h : GS W rb n n fun i => nxt n O T (i : Int)) (hn : n ≤ 1000) : Gr W W.heap.size (.slice (some ⟨rb, 0, none⟩) n n) (gph n O T) := by
  obtain ⟨rs, h1, h2⟩ := h
  refine ⟨(List.range n).map rs, ?_, by rw [gph_length]; simp, fun i rv hi => ?_⟩
  · have : SlV W W.heap.size (.slice (some ⟨rb, 0, none⟩) ((List.range n).map rs).length n) ((List.range n).map rs) := by
      refine .at_ _ _ _ (by simp) (by unfold maxLen; omega) fun j u hu => ⟨h1.lt, ?_⟩
      have hj : j < n := by have := (List.getElem?_eq_some_iff.1 hu).1; simpa using this
      rw [add_plain, Nat.zero_add, h1.cell, arrN_at _ hj, if_pos hj]
      rw [List.getElem?_map, List.getElem?_range hj] at hu
      exact hu
    rwa [List.length_map, List.length_range] at this
  · have hj : i < n := by have := (List.getElem?_eq_some_iff.1 hi).1; simpa using this
    rw [List.getElem?_map, List.getElem?_range hj] at hi
    injection hi with hi
    subst hi
    rw [gph_row _ _ hj]
    exact (h2 i hj).slv

set_option maxRecDepth 100000 in
set_option maxHeartbeats 2000000 in
theorem graph_any (w : World) (A : Option Addr) (n c : Nat) (O T : Nat → Int) (h : Cd w w.heap.size A n c O T) (hn : n ≤ 1000) :
    Calls Tryz.prog 216 #[.slice A n c] w (GAns w (gph n O T)) := by
  have hmk := make_rows n hn
  have HN := Lib.hid (fun W (hb : Below w.heap.size w W) (i : Int) => next_any W A n c O T ((h.below hb).more hb.size) i)
  have HG := Lib.hid (fun W rb (hs : GS W rb n n fun i => nxt n O T (i : Int)) => hs.gr hn)
  have HS := Lib.hid (fun W rb k v (hs : GS W rb n k fun i => nxt n O T (i : Int)) (hk : k < n) (hv : Rw W (rb + 1) v (nxt n O T (k : Int))) => hs.store hk hv)
  have h0 : GS (w.alloc (.cells (Array.replicate n (.slice none 0 0)) 22)) w.heap.size n 0 fun i => nxt n O T (i : Int) := ⟨fun _ => .slice none 0 0, by
    have e : (fun (i : Nat) => if i < 0 then Value.slice none 0 0 else Value.slice none 0 0) = fun _ => Value.slice none 0 0 := funext fun i => by simp
    rw [e, ← arrN_rep]; exact Blk.new w _ _, fun i hi => by omega⟩
  have hb0 : Below w.heap.size w (w.alloc (.cells (Array.replicate n (.slice none 0 0)) 22)) := (Below.refl _ w).alloc (Nat.le_refl _) _
  have HW0 := Lib.hid (show GS (w.alloc (.cells (Array.replicate n (.slice none 0 0)) 22)) w.heap.size n 0 (fun i => nxt n O T (i : Int)) ∧ Below w.heap.size w (w.alloc (.cells (Array.replicate n (.slice none 0 0)) 22)) from ⟨h0, hb0⟩)
  have HL := Lib.hid (gph_length n O T)
  clear h0 hb0 h
  go_enter Tryz.func216, Tryz.ntmps216
  go_wp2_with fail
  clear hmk
  go_loopw [10] (fun i wr => ∃ k : Nat, k ≤ n ∧ i = .int .i64 (k : Int) ∧ GS wr w.heap.size n k (fun i => nxt n O T (i : Int)) ∧ Below w.heap.size w wr) (fun i _ => n - (intOf i).toNat)
  case atStart => exact ⟨0, Nat.zero_le _, rfl, HW0.out.1, HW0.out.2⟩
  case round =>
    obtain ⟨k, hk, rfl, hgs, hbel⟩ := hrel
    by_cases hlt : k < n
    · have hkI : (k : Int) < (n : Int) := by omega
      have HGS := Lib.hid hgs
      have HBE := Lib.hid hbel
      clear hgs hbel
      go_wp2_with (go_at_call 278; go_loud (refine (HN.out wr HBE.out (k : Int)).mono ?_; rintro e w2 ⟨v2, rfl, hrw, hb2⟩; obtain ⟨rs, hblk, _⟩ := HGS.out.below hb2; have hc2 : w2.cell? ⟨w.heap.size, k, none⟩ = some (.slice none 0 0) := (hblk.cell k).trans (by rw [arrN_at _ hlt]; simp); have hf2 : w2.frozen? ⟨w.heap.size, k, none⟩ = false := hblk.frozen k; clear hblk; have HG2 := Lib.hid (HS.out w2 w.heap.size k v2 (HGS.out.below hb2) hlt (hrw.less (HGS.out.lt))); have HB2 := Lib.hid (HBE.out.trans (hb2.mono HBE.out.size)); obtain ⟨A2, c2, rfl, _⟩ := hrw; clear hb2))
      go_roundw
      case rel => exact ⟨k + 1, by omega, by go_num, HG2.out, HB2.out.setCell (p := ⟨w.heap.size, k, none⟩) (Nat.le_refl _) _⟩
      case measure => simp [intOf]; omega
    · obtain rfl : k = n := by omega
      have HGS := Lib.hid (HG.out _ _ hgs)
      have HBE := Lib.hid hbel
      clear hgs hbel
      go_wp2_with fail
      go_ret
      refine ⟨some ⟨w.heap.size, 0, none⟩, k, ?_, ?_, HBE.out⟩
      · rw [HL.out]; rfl
      · rw [HL.out]; exact HGS.out
end Go.Proofs.YtbknmapkdjmcjaaGreatDoor.By

namespace Go.Proofs.YtbknmapkdjmcjaaGreatDoor.By
open Go.RowKit
open Mem Gm Rf

/-- Rows that were appended to a list of the call's own. -/
def GA (W : World) (base : Nat) (v : Value) (k : Nat) (rs : List Value) (F : Nat → List Int) : Prop :=
  rs.length = k ∧ W.ownsRow base 22 1 v k rs ∧ ∀ i rv, rs[i]? = some rv → Rw W base rv (F i) ∧ ∀ r, rv.ownBlock = some r → v.ownBlock ≠ some r

theorem GA.below {W W' : World} {base k : Nat} {v : Value} {rs : List Value} {F : Nat → List Int} (h : GA W base v k rs F) (hb : Below W.heap.size W W') : GA W' base v k rs F :=
  ⟨h.1, own_keep h.2.1 fun g _ hg _ => hb.block g hg, fun i rv hi => ⟨((h.2.2 i rv hi).1).below hb, (h.2.2 i rv hi).2⟩⟩

theorem GA.push {wr w2 w4 : World} {base k : Nat} {v v' nv : Value} {rs : List Value} {F : Nat → List Int} (h : GA wr base v k rs F) (hb2 : Below wr.heap.size wr w2) (hn : Rw w2 wr.heap.size nv (F k)) (hB : base ≤ wr.heap.size) (o : Obj)
    (h2 : w4.ownsRow base 22 1 v' (k + 1) (rs ++ [nv])) (h3 : (w2.alloc o).grownBy w4 v.ownBlock) (h5 : v'.ownBlock = v.ownBlock ∨ v'.ownBlock = some (w2.alloc o).heap.size) : GA w4 base v' (k + 1) (rs ++ [nv]) F := by
  have hvlt : ∀ r, v.ownBlock = some r → r < wr.heap.size := fun r e => (h.2.1.lt r e).2
  have key : ∀ rv l, Rw w2 base rv l → (∀ r, rv.ownBlock = some r → v.ownBlock ≠ some r) → Rw w4 base rv l ∧ ∀ r, rv.ownBlock = some r → v'.ownBlock ≠ some r := fun rv l hr hne => by
    refine ⟨hr.keep fun g hg hlt he => ?_, fun r e => ?_⟩
    · exact (h3.block g (by simp; omega) (fun e => hne g he e.symm)).trans (Below.heap_alloc _ _ _ hlt)
    · have hlt := (hr.lt e).2
      rcases h5 with h5 | h5
      · rw [h5]; exact hne r e
      · rw [h5]; intro e2; injection e2 with e2; simp at e2; omega
  refine ⟨by rw [List.length_append, h.1]; rfl, h2, fun i rv hi => ?_⟩
  by_cases e : i < k
  · rw [List.getElem?_append_left (by rw [h.1]; exact e)] at hi
    have h9 := (h.below hb2).2.2 i rv hi
    exact key rv _ h9.1 h9.2
  · have hik : i = k := by have := (List.getElem?_eq_some_iff.1 hi).1; rw [List.length_append, h.1] at this; simp at this; omega
    subst hik
    rw [List.getElem?_append_right (by rw [h.1]; exact Nat.le_refl _), h.1, Nat.sub_self] at hi
    have : nv = rv := by simpa using hi
    subst this
    exact key nv _ (hn.less hB) fun r e e2 => by have h8 := (hn.lt e).1; have h9 := hvlt r e2; omega

theorem GA.gr {W : World} {base n : Nat} {v : Value} {rs : List Value} {O T : Nat → Int} (h : GA W base v n rs fun i => nxt n O T (i : Int)) : ∃ A c, v = .slice A n c ∧ Gr W W.heap.size (.slice A n c) (gph n O T) := by
  obtain ⟨A, c, rfl⟩ := own_form h.2.1
  refine ⟨A, c, rfl, rs, ?_, by rw [gph_length]; exact h.1, fun i rv hi => ?_⟩
  · exact SlV.of_own h.2.1
  · have hj : i < n := by have := (List.getElem?_eq_some_iff.1 hi).1; rw [h.1] at this; exact this
    rw [gph_row _ _ hj]
    exact (h.2.2 i rv hi).1.slv

set_option maxRecDepth 100000 in
set_option maxHeartbeats 2000000 in
theorem rgraph_any (w : World) (A : Option Addr) (n c : Nat) (O T : Nat → Int) (h : Cd w w.heap.size A n c O T) (hn : n ≤ 1000) :
    Calls Tryz.prog 295 #[.slice A n c] w (GAns w (gph n O T)) := by
  obtain ⟨i0, hi, hz0, hz1, hz2⟩ := info_parts infoR
  have HN := Lib.hid (fun W (hb : Below w.heap.size w W) (i : Int) => rnext_any W A n c O T ((h.below hb).more hb.size) i)
  have HL := Lib.hid (gph_length n O T)
  clear h
  go_enter Tryz.func295, Tryz.ntmps295
  go_wp2_with fail
  go_loopw [3, 4] (fun v i wr => ∃ (k : Nat) (rs : List Value), k ≤ n ∧ i = .int .i64 (k : Int) ∧ GA wr w.heap.size v k rs (fun i => nxt n O T (i : Int)) ∧ Below w.heap.size w wr) (fun _ i _ => n - (intOf i).toNat)
  case atStart => exact ⟨0, [], Nat.zero_le _, rfl, ⟨rfl, World.ownsRow_nil _ _ _ _, fun i rv hi => by simp at hi⟩, Below.refl _ _⟩
  case round =>
    obtain ⟨k, rs, hk, rfl, hga, hbel⟩ := hrel
    by_cases hlt : k < n
    · have hkI : (k : Int) < (n : Int) := by omega
      have HGA := Lib.hid hga
      have HBE := Lib.hid hbel
      clear hga hbel
      go_wp2_with (first
        | (go_at_call 225; refine (HN.out wr HBE.out (k : Int)).mono ?_; rintro e w2 ⟨nv, rfl, hrw, hb2⟩; have HRW := Lib.hid hrw; have HB2 := Lib.hid hb2; obtain ⟨A2, c2, rfl, _⟩ := hrw; clear hb2)
        | (at_builtin; refine wpList_append_wh _ rfl _ _ 224 rfl w.heap.size 22 i0 (.slice none 0 0) 1 24 Tryz.underlying224 hi hz0 hz1 hz2 rfl (by decide) _ _ _ rfl (own_keep (HGA.out.below HB2.out).2.1 fun g _ hg _ => Below.heap_alloc _ _ _ hg) ⟨w2.heap.size, 0, none⟩ 1 1 [.slice A2 (nxt n O T (k : Int)).length c2] (by decide) rfl rfl (fun j u hu => by (rw [add_plain, Nat.zero_add, (Blk.new w2 _ _).cell]; simpa using hu)) (by simp [Value.oneCell']) (by unfold maxLen; omega) (by omega) (by have := HBE.out.size; have := HB2.out.size; simp; omega) ?_; intro v' w4 h2 h3 h5; have H2 := Lib.hid h2; have H3 := Lib.hid h3; have H5 := Lib.hid h5; clear h2 h3 h5))
      go_roundw
      case rel =>
        have hbx : Below w.heap.size w (w2.alloc (.cells #[.slice A2 (nxt n O T (k : Int)).length c2] 22)) := (HBE.out.trans (HB2.out.mono HBE.out.size)).alloc (Nat.le_trans HBE.out.size HB2.out.size) _
        exact ⟨k + 1, rs ++ [.slice A2 (nxt n O T (k : Int)).length c2], by omega, by go_num, HGA.out.push HB2.out HRW.out HBE.out.size _ H2.out H3.out H5.out, hbx.grown H3.out hbx.size fun r e => (HGA.out.2.1.lt r e).1⟩
      case measure => simp [intOf]; omega
    · obtain rfl : k = n := by omega
      obtain ⟨A2, c2, rfl, hgr⟩ := hga.gr
      have HGR := Lib.hid hgr
      have HBE := Lib.hid hbel
      clear hga hbel hgr
      go_wp2_with fail
      go_ret
      refine ⟨A2, c2, ?_, ?_, HBE.out⟩
      · rw [HL.out]; rfl
      · rw [HL.out]; exact HGR.out
end Go.Proofs.YtbknmapkdjmcjaaGreatDoor.By
