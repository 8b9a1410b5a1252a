/-
  WALKS of layer 15: data of bytes: Get.
-/
import Derived.Test.YthkbdclnnpcoiaaDoorEc
namespace Go.Proofs.YthkbdclnnpcoiaaDoor.By
open Go.RowKit
open Mem Gm Rf
set_option linter.unusedSimpArgs false
set_option linter.unusedVariables false

/-- The next data: its kind, its words, its references, what is wrong, how the reader stands. -/
def gN1 (l : List UInt8) (s : Std) : Nat := (rvS l (pgS l s 1) 1).toNat
def gS2 (l : List UInt8) (s : Std) : Std := pgS l (pgS l s 1) 1
def gS3 (l : List UInt8) (s : Std) : Std := wst l (gN1 l s) (gS2 l s)
def gN2 (l : List UInt8) (s : Std) : Nat := (rvS l (gS3 l s) 1).toNat
def gR (l : List UInt8) (s : Std) : Option (List Rl) × Std := rfs l (gN2 l s) (pgS l (gS3 l s) 1)
theorem own_keep1 {w w' : World} {base n k : Nat} {E : TypeId} {v : Value} {xs : List Value} (h : w.ownsRow base E k v n xs) (hk : ∀ g, base ≤ g → g < w.heap.size → v.ownBlock = some g → w'.heap[g]? = w.heap[g]?) : w'.ownsRow base E k v n xs := by
  obtain ⟨h1, h2⟩ := h
  refine ⟨h1, ?_⟩
  rcases h2 with h2 | ⟨g, cap, cur, hv, hb, hg, r⟩
  · exact .inl h2
  · exact .inr ⟨g, cap, cur, hv, hb, (hk g hb (Array.getElem?_eq_some_iff.1 hg).1 (by rw [hv]; rfl)).trans hg, r⟩
structure Gd where
  kd : Int
  ws : List Int
  rs : List Rl
  er : Int
def gdV (l : List UInt8) (s : Std) : Gd :=
  match (gR l s).1 with
  | none => ⟨0, [], [], 3⟩
  | some rs => if (gR l s).2.2 = false then ⟨0, [], [], 5⟩ else ⟨rvS l s 1, wds l (gN1 l s) (gS2 l s), rs, 0⟩

theorem wds_next (l : List UInt8) : ∀ k s, wds l (k + 1) s = wds l k s ++ [rvS l (wst l k s) 8]
  | 0, s => rfl
  | k + 1, s => by rw [wds, wds_next l k (pgS l s 8)]; rfl
theorem wst_next (l : List UInt8) : ∀ k s, wst l (k + 1) s = pgS l (wst l k s) 8
  | 0, s => rfl
  | k + 1, s => by rw [wst, wst_next l k (pgS l s 8)]; rfl

theorem infoRl : (Tryd.prog.info? 51).map (fun i => (i.zero, i.size, i.bytes)) = some (some (.agg #[.int .i64 0, .int .i64 0, .bool false]), 3, 24) := by kernel_rfl
def flRl (l : List Rl) : List Value := l.flatMap encRl
theorem flRl_snoc (l : List Rl) (x : Rl) : flRl l ++ encRl x = flRl (l ++ [x]) := by simp [flRl]

theorem flat_at {α : Type} {k : Nat} {enc : α → List Value} (hk : ∀ x, (enc x).length = k) : ∀ (l : List α) (i : Nat) (x : α) (j : Nat) (u : Value), l[i]? = some x → (enc x)[j]? = some u → (l.flatMap enc)[i * k + j]? = some u
  | [], i, x, j, u, h, _ => by simp at h
  | y :: l, 0, x, j, u, h, hu => by
    have : y = x := by simpa using h
    subst this
    have hj := (List.getElem?_eq_some_iff.1 hu).1
    rw [List.flatMap_cons, Nat.zero_mul, Nat.zero_add, List.getElem?_append_left hj]; exact hu
  | y :: l, i + 1, x, j, u, h, hu => by
    have := flat_at hk l i x j u (by simpa using h) hu
    rw [List.flatMap_cons, List.getElem?_append_right (by rw [hk, Nat.add_mul]; omega), hk, show (i + 1) * k + j - k = i * k + j by rw [Nat.add_mul]; omega]
    exact this

theorem flat_len {α : Type} {k : Nat} {enc : α → List Value} (hk : ∀ x, (enc x).length = k) (l : List α) : (l.flatMap enc).length = l.length * k := by
  induction l with
  | nil => simp
  | cons y l ih => rw [List.flatMap_cons, List.length_append, ih, hk, List.length_cons, Nat.add_mul]; omega

theorem wd_own {α : Type} {k : Nat} {enc : α → List Value} {w : World} {base n : Nat} {e : TypeId} {v : Value} {l : List α} (hk : ∀ x, (enc x).length = k) (hl : l.length = n) (h : w.ownsRow base e k v n (l.flatMap enc)) : ∃ A c, v = .slice A n c ∧ Wd k enc w w.heap.size A n c l := by
  have h2 := h.2
  rcases h2 with ⟨rfl, rfl⟩ | ⟨g, cap, cur, rfl, hb, hg, hc, hm, hs, ht⟩
  · have : l = [] := List.eq_nil_of_length_eq_zero hl
    subst this
    exact ⟨none, 0, rfl, Wd.nil⟩
  · refine ⟨_, cap, rfl, hl, hc, hm, fun e => by simp at e, fun i x hi => ⟨_, rfl, (Array.getElem?_eq_some_iff.1 hg).1, fun j u hu => ?_⟩⟩
    rw [add_twice]
    exact h.cells (g := g) rfl _ _ (flat_at hk l i x j u hi hu)
theorem encRl_len (x : Rl) : (encRl x).length = 3 := rfl
theorem RlL.own {w : World} {base n : Nat} {v : Value} {l : List Rl} (hl : l.length = n) (h : w.ownsRow base 51 3 v n (flRl l)) : ∃ A c, v = .slice A n c ∧ RlL w A n c l := wd_own encRl_len hl h

def GtAns (d : Gd) (s : Std) (w : World) (g : Nat) (A : Option Addr) (c : Nat) (l : List UInt8) (e : Ending) (w' : World) : Prop :=
  ∃ AW cW AR cR, e = .returned (.tuple #[.agg #[.int .i64 d.kd, .slice AW d.ws.length cW, .slice AR d.rs.length cR], .int .i64 d.er]) ∧ IW w' (.slice AW d.ws.length cW) d.ws ∧ RlL w' AR d.rs.length cR d.rs ∧ RdS w' g A c l s ∧ w.grownBy w' (some g)

theorem rdS_below {w w' : World} {g B : Nat} {A : Option Addr} {c : Nat} {l : List UInt8} {s : Std} (h : RdS w g A c l s) (hb : Below B w w') (hg : g < B) : RdS w' g A c l s := Rdr.below h hb hg
/-- How things stand while data are got. -/
def GI (w : World) (g : Nat) (A : Option Addr) (c : Nat) (l : List UInt8) (D : Nat) (kd : Int) (st : Std) (v1 v2 : Value) (wr : World) : Prop :=
  (RdS wr g A c l st ∧ Blk wr w.heap.size 25 #[.int .i64 0, .slice none 0 0, .slice none 0 0] ∧ Blk wr D 25 #[.int .i64 kd, v1, v2]) ∧ w.grownBy wr (some g)
/-- What grows is behind D. -/
theorem GI.grow {w : World} {g : Nat} {A : Option Addr} {c : Nat} {l : List UInt8} {D : Nat} {kd : Int} {st : Std} {v1 v2 : Value} {wr w' : World} {row : Option Nat} (hD : w.heap.size < D) (hg : g < w.heap.size) (h : GI w g A c l D kd st v1 v2 wr) (k : wr.grownBy w' row) (hr : ∀ r, row = some r → D < r) : GI w g A c l D kd st v1 v2 w' := by
  obtain ⟨⟨h1, h2, h3⟩, h4⟩ := h
  have hb : Below (D + 1) wr w' := below_grown k (fun r e => hr r e) (by have := h3.lt; omega)
  exact ⟨⟨rdS_below h1 hb (by omega), h2.below hb (by omega), h3.below hb (by omega)⟩, only_grown h4 k fun r e => by have := hr r e; omega⟩
theorem GI.alloc {w : World} {g : Nat} {A : Option Addr} {c : Nat} {l : List UInt8} {D : Nat} {kd : Int} {st : Std} {v1 v2 : Value} {wr : World} (hD : w.heap.size < D) (hg : g < w.heap.size) (h : GI w g A c l D kd st v1 v2 wr) (o : Obj) : GI w g A c l D kd st v1 v2 (wr.alloc o) := by
  obtain ⟨⟨h1, h2, h3⟩, h4⟩ := h
  exact ⟨⟨rdS_below h1 (alloc_ wr o) (by have := h3.lt; omega), h2.alloc o, h3.alloc o⟩, only_alloc h4 o⟩
/-- A number was taken. -/
theorem GI.num {w : World} {g : Nat} {A : Option Addr} {c : Nat} {l : List UInt8} {D : Nat} {kd : Int} {st st' : Std} {v1 v2 : Value} {wr w' : World} (hD : w.heap.size < D) (hg : g < w.heap.size) (h : GI w g A c l D kd st v1 v2 wr) (hr : RdS w' g A c l st') (k : wr.grownBy w' (some g)) : GI w g A c l D kd st' v1 v2 w' :=
  ⟨⟨hr, blk_only h.1.2.1 k (by omega), blk_only h.1.2.2 k (by omega)⟩, only_to h.2 k⟩
/-- A field was set. -/
theorem GI.set1 {w : World} {g : Nat} {A : Option Addr} {c : Nat} {l : List UInt8} {D : Nat} {kd : Int} {st : Std} {v1 v2 : Value} {wr : World} (hD : w.heap.size < D) (hg : g < w.heap.size) (h : GI w g A c l D kd st v1 v2 wr) (v : Value) : GI w g A c l D kd st v v2 (wr.setCell ⟨D, 1, none⟩ v) :=
  ⟨⟨rd_other h.1.1 ⟨D, 1, none⟩ v (by show g < D; omega), blk_away h.1.2.1 ⟨D, 1, none⟩ v (by show w.heap.size ≠ D; omega), h.1.2.2.stored 1 v⟩, only_high h.2 ⟨D, 1, none⟩ v (by show w.heap.size ≤ D; omega)⟩
theorem GI.set2 {w : World} {g : Nat} {A : Option Addr} {c : Nat} {l : List UInt8} {D : Nat} {kd : Int} {st : Std} {v1 v2 : Value} {wr : World} (hD : w.heap.size < D) (hg : g < w.heap.size) (h : GI w g A c l D kd st v1 v2 wr) (v : Value) : GI w g A c l D kd st v1 v (wr.setCell ⟨D, 2, none⟩ v) :=
  ⟨⟨rd_other h.1.1 ⟨D, 2, none⟩ v (by show g < D; omega), blk_away h.1.2.1 ⟨D, 2, none⟩ v (by show w.heap.size ≠ D; omega), h.1.2.2.stored 2 v⟩, only_high h.2 ⟨D, 2, none⟩ v (by show w.heap.size ≤ D; omega)⟩

/-- The answer's cell was set. -/
theorem GI.putR {w : World} {g : Nat} {A : Option Addr} {c : Nat} {l : List UInt8} {D : Nat} {kd : Int} {st : Std} {v1 v2 : Value} {wr : World} (hg : g < w.heap.size) (h : GI w g A c l D kd st v1 v2 wr) (a b d : Value) :
    RdS (((wr.setCell ⟨w.heap.size, 0, none⟩ a).setCell ⟨w.heap.size, 1, none⟩ b).setCell ⟨w.heap.size, 2, none⟩ d) g A c l st ∧ Blk (((wr.setCell ⟨w.heap.size, 0, none⟩ a).setCell ⟨w.heap.size, 1, none⟩ b).setCell ⟨w.heap.size, 2, none⟩ d) w.heap.size 25 #[a, b, d] ∧ w.grownBy (((wr.setCell ⟨w.heap.size, 0, none⟩ a).setCell ⟨w.heap.size, 1, none⟩ b).setCell ⟨w.heap.size, 2, none⟩ d) (some g) :=
  ⟨rd_put3 h.1.1 _ hg _ _ _, blk_put3 h.1.2.1 _ _ _, only_put3 h.2 _ (Nat.le_refl _) _ _ _⟩

set_option maxRecDepth 100000 in
set_option maxHeartbeats 8000000 in
theorem getD_any (w : World) (g : Nat) (A : Option Addr) (c : Nat) (l : List UInt8) (s : Std) (h : RdS w g A c l s) :
    Calls Tryd.prog 18 #[.pointer (some ⟨g, 0, none⟩)] w (GtAns (gdV l s) (gR l s).2 w g A c l) := by
  obtain ⟨iR, hiR, hzR0, hzR1, hzR2⟩ := info_parts infoRl
  obtain ⟨iW, hiW, hzW0, hzW1, hzW2⟩ := info_parts info2
  have hg : g < w.heap.size := h.blk.lt
  have HG := Lib.hid hg
  obtain ⟨W0, hW0⟩ : ∃ W0, w.alloc (.cells #[.int .i64 0, .slice none 0 0, .slice none 0 0] 25) = W0 := ⟨_, rfl⟩
  have HZ0 := Lib.hid (show RdS W0 g A c l s ∧ Blk W0 w.heap.size 25 #[.int .i64 0, .slice none 0 0, .slice none 0 0] ∧ w.grownBy W0 (some g) from by
    rw [← hW0]; exact ⟨rdS_below h (alloc_ _ _) hg, Blk.new w _ _, only_alloc (only_refl w g) _⟩)
  have hsz0 : W0.heap.size = w.heap.size + 1 := by rw [← hW0]; simp
  have HS0 := Lib.hid hsz0
  have HN := Lib.hid (fun W s (h : RdS W g A c l s) => num_s W g A c l s h 1)
  have HSG := Lib.hid (fun W s (h : RdS W g A c l s) => signed_s W g A c l s h)
  have HTK := Lib.hid (fun W s (h : RdS W g A c l s) => take_any W g A c l s h)
  have HBD := Lib.hid (fun W s (h : RdS W g A c l s) => bad_s W g A c l s h)
  obtain ⟨kd, hkd⟩ : ∃ kd, rvS l s 1 = kd := ⟨_, rfl⟩
  have HKD := Lib.hid hkd
  obtain ⟨N1, hN1⟩ : ∃ N, gN1 l s = N := ⟨_, rfl⟩
  have hN1I : rvS l (pgS l s 1) 1 = (N1 : Int) := by have := num_one l (pgS l s 1); unfold gN1 at hN1; omega
  have hN1B : N1 ≤ 255 := by have := num_one l (pgS l s 1); omega
  obtain ⟨s2, hs2⟩ : ∃ x, gS2 l s = x := ⟨_, rfl⟩
  obtain ⟨s3, hs3⟩ : ∃ x, wst l N1 s2 = x := ⟨_, rfl⟩
  have hs3' : gS3 l s = s3 := by unfold gS3; rw [hN1, hs2, hs3]
  obtain ⟨N2, hN2⟩ : ∃ N, gN2 l s = N := ⟨_, rfl⟩
  have hN2I : rvS l s3 1 = (N2 : Int) := by have := num_one l s3; unfold gN2 at hN2; rw [hs3'] at hN2; omega
  have hN2B : N2 ≤ 255 := by have := num_one l s3; omega
  obtain ⟨s4, hs4⟩ : ∃ x, pgS l s3 1 = x := ⟨_, rfl⟩
  have hR : gR l s = rfs l N2 s4 := by unfold gR; rw [hN2, hs3', hs4]
  have HGD := Lib.hid (show gdV l s = (match (rfs l N2 s4).1 with | none => ⟨0, [], [], 3⟩ | some rs => if (rfs l N2 s4).2.2 = false then ⟨0, [], [], 5⟩ else ⟨kd, wds l N1 s2, rs, 0⟩) from by unfold gdV; rw [hR, hN1, hs2, hkd])
  have HGR := Lib.hid (show (gR l s).2 = (rfs l N2 s4).2 from by rw [hR])
  have HN1 := Lib.hid (show ∀ W, RdS W g A c l (pgS l s 1) → Calls Tryd.prog 38 #[.pointer (some ⟨g, 0, none⟩), .int .i64 1] W fun e w' => e = .returned (.int .i64 (N1 : Int)) ∧ RdS w' g A c l s2 ∧ W.grownBy w' (some g) from fun W hh => (num_s W g A c l _ hh 1).mono fun e w' h9 => by unfold NumS at h9; rw [hN1I] at h9; rw [← hs2]; exact h9)
  have HN2 := Lib.hid (show ∀ W, RdS W g A c l s3 → Calls Tryd.prog 38 #[.pointer (some ⟨g, 0, none⟩), .int .i64 1] W fun e w' => e = .returned (.int .i64 (N2 : Int)) ∧ RdS w' g A c l s4 ∧ W.grownBy w' (some g) from fun W hh => (num_s W g A c l _ hh 1).mono fun e w' h9 => by unfold NumS at h9; rw [hN2I] at h9; rw [← hs4]; exact h9)
  have HS3 := Lib.hid hs3
  clear h hg hkd hN1 hN1I hs2 hs3 hs3' hN2 hN2I hs4 hR hsz0
  go_enter Tryd.func18, Tryd.ntmps18
  go_wp2_with fail
  clear hW0
  refine (HN.out W0 s HZ0.out.1).mono ?_
  rintro e w1 ⟨rfl, hr1, hg1⟩
  rw [HKD.out]
  have HR1 := Lib.hid hr1
  have HG1 := Lib.hid hg1
  have HD := Lib.hid (show w.heap.size < w1.heap.size by have := HS0.out; have := hg1.size; omega)
  obtain ⟨D, hDD⟩ : ∃ D, w1.heap.size = D := ⟨_, rfl⟩
  have hbD : Blk (w1.alloc (.cells #[.int .i64 kd, .slice none 0 0, .slice none 0 0] 25)) D 25 #[.int .i64 kd, .slice none 0 0, .slice none 0 0] := by rw [← hDD]; exact Blk.new w1 _ _
  rw [hDD] at HD
  obtain ⟨W2, hW2⟩ : ∃ W2, w1.alloc (.cells #[.int .i64 kd, .slice none 0 0, .slice none 0 0] 25) = W2 := ⟨_, rfl⟩
  have HGI2 := Lib.hid (show GI w g A c l D kd (pgS l s 1) (.slice none 0 0) (.slice none 0 0) W2 from by
    rw [← hW2]
    exact ⟨⟨rdS_below hr1 (alloc_ _ _) (by have := HG.out; have := HD.out; omega), (blk_only HZ0.out.2.1 hg1 (by have := HG.out; omega)).alloc _, hbD⟩, only_alloc (only_to HZ0.out.2.2 hg1) _⟩)
  have HW2 := Lib.hid hW2
  have HDD := Lib.hid hDD
  clear hr1 hg1 hbD hW2 hDD
  go_wp2_with fail
  rw [HW2.out, HDD.out]
  clear HW2 HDD
  refine (HN1.out W2 HGI2.out.1.1).mono ?_
  rintro e w2 ⟨rfl, hr2, hg2⟩
  have HGI := Lib.hid (HGI2.out.num HD.out HG.out hr2 hg2)
  clear hr2 hg2 HGI2
  go_wp2_with fail
  go_loopw [12] (fun i wr => ∃ (k : Nat) (v : Value), k ≤ N1 ∧ i = .int .i64 (k : Int) ∧ GI w g A c l D kd (wst l k s2) v (.slice none 0 0) wr ∧ wr.ownsRow (D + 1) 2 1 v k (ints (wds l k s2))) (fun i _ => N1 - (intOf i).toNat)
  case atStart => exact ⟨0, _, Nat.zero_le _, rfl, HGI.out, World.ownsRow_nil _ _ _ _⟩
  case round =>
    obtain ⟨k, v, hk, rfl, hgi, hown⟩ := hrel
    have HGK := Lib.hid hgi
    have HOW := Lib.hid hown
    clear hgi hown
    by_cases hlt : k < N1
    · have hkI : (k : Int) < (N1 : Int) := by omega
      have HWN := Lib.hid (wds_next l k s2)
      have HSN := Lib.hid (wst_next l k s2)
      have HSK := Lib.hid (fun W (hh : RdS W g A c l (wst l k s2)) => HSG.out W _ hh)
      unfold SgS at HSK
      rw [← HSN.out] at HSK
      obtain ⟨x, hx⟩ : ∃ x, rvS l (wst l k s2) 8 = x := ⟨_, rfl⟩
      rw [hx] at HWN HSK
      clear hx
      have HDR := Lib.hid (show RdS wr.drew g A c l (wst l k s2) from rdS_below HGK.out.1.1 (drew_below wr) (by have := HGK.out.1.2.2.lt; have := HG.out; have := HD.out; omega))
      have HDG := Lib.hid (show wr.grownBy wr.drew (some g) from only_of_below g (drew_below wr))
      have cD : wr.cell? ⟨D, 1, none⟩ = some v := HGK.out.1.2.2.cell 1
      have cD2 : wr.drew.cell? ⟨D, 1, none⟩ = some v := cD
      go_wp2_with fail
      refine wp_region_noPanic ?_
      refine wp_region_held_drew (S := fun _ => True) (by kernel_rfl) (trivial) (fun hHeld => ?_)
      refine wpAnyH_take (i := 0) rfl (by kernel_rfl) (by kernel_rfl) (by kernel_rfl) (fun _ _ _ h => h) (Or.inl ⟨by rfl, by intro W hSW; (try dsimp only at hSW); go_simp; try (with_reducible rfl)⟩) hHeld ?_
      try simp only [Act.put, List.getElem_toArray, List.getElem_cons_zero, List.getElem_cons_succ, List.setIfInBounds_toArray, List.set_cons_zero, List.set_cons_succ]
      refine wpAnyH_take (i := 2) rfl (by kernel_rfl) (by kernel_rfl) (by kernel_rfl) (fun _ _ _ h => h) (Or.inl ⟨by rfl, by intro W hSW; (try dsimp only at hSW); go_simp; try (with_reducible rfl)⟩) hHeld ?_
      try simp only [Act.put, List.getElem_toArray, List.getElem_cons_zero, List.getElem_cons_succ, List.setIfInBounds_toArray, List.set_cons_zero, List.set_cons_succ]
      refine wpAnyH_ready (rs := [1, 3]) (by kernel_rfl) (by simp) ?_
      refine AllReadyH.cons rfl (fun K hK => ?_) (AllReadyH.cons rfl (fun K hK => ?_) AllReadyH.nil)
      · go_simp
        refine hK.out _ _ trivial ?_
        clear hK K hHeld
        intro hHeld
        try simp only [Act.put, List.getElem_toArray, List.getElem_cons_zero, List.getElem_cons_succ, List.setIfInBounds_toArray, List.set_cons_zero, List.set_cons_succ]
        refine wpAnyH_ready (rs := [3]) (by kernel_rfl) (by simp) ?_
        refine AllReadyH.cons rfl (fun K hK => ?_) AllReadyH.nil
        go_simp
        refine (HSK.out _ HDR.out).mono ?_
        rintro e w5 ⟨rfl, hr5, hg5⟩
        have hg5' : wr.grownBy w5 (some g) := only_to HDG.out hg5
        have HG5 := Lib.hid (HGK.out.num HD.out HG.out hr5 hg5')
        have HO5 := Lib.hid (ownk_keep HOW.out fun gg hb hlt => hg5'.block gg hlt (fun e => by injection e with e; have := HG.out; have := HD.out; omega))
        clear hr5 hg5 hg5'
        try go_wp2_with fail
        refine hK.out _ _ trivial ?_
        clear hK K hHeld
        intro hHeld
        try simp only [Act.put, List.getElem_toArray, List.getElem_cons_zero, List.getElem_cons_succ, List.setIfInBounds_toArray, List.set_cons_zero, List.set_cons_succ]
        refine wpAnyH_ready (rs := [4]) (by kernel_rfl) (by simp) ?_
        refine AllReadyH.cons rfl (fun K hK => ?_) AllReadyH.nil
        go_simp
        refine hK.out _ _ trivial ?_
        clear hK K hHeld
        intro hHeld
        try simp only [Act.put, List.getElem_toArray, List.getElem_cons_zero, List.getElem_cons_succ, List.setIfInBounds_toArray, List.set_cons_zero, List.set_cons_succ]
        refine wpAnyH_ready (rs := [5]) (by kernel_rfl) (by simp) ?_
        refine AllReadyH.cons rfl (fun K hK => ?_) AllReadyH.nil
        refine step_append_own rfl _ _ 22 rfl (D + 1) 2 iW (.int .i64 0) 1 8 Tryd.underlying22 hiW hzW0 hzW1 hzW2 rfl (by decide) _ k (ints (wds l k s2)) rfl (ownk_keep HO5.out fun gg hb hlt => Below.heap_alloc _ _ _ hlt) ⟨w5.heap.size, 0, none⟩ 1 [.int .i64 x] rfl rfl (fun j u hu => by rw [add_plain, Nat.zero_add]; exact ((Blk.new w5 2 #[.int .i64 x]).cell j).trans (by simpa using hu)) (by simp [Value.oneCell']) (by unfold maxLen; omega) (by omega) (by have := HG5.out.1.2.2.lt; simp; omega) ?_
        intro v' w6 h2 h3
        obtain ⟨A', c', rfl⟩ := own_formW h2
        have H2 := Lib.hid h2
        have H3 := Lib.hid h3
        clear h2 h3
        have HG6 := Lib.hid ((HG5.out.alloc HD.out HG.out _).grow HD.out HG.out H3.out fun r e => by have := (HO5.out.lt r e).1; omega)
        refine hK.out _ _ trivial ?_
        clear hK K hHeld
        intro hHeld
        try simp only [Act.put, List.getElem_toArray, List.getElem_cons_zero, List.getElem_cons_succ, List.setIfInBounds_toArray, List.set_cons_zero, List.set_cons_succ]
        refine wpAnyH_take (i := 6) rfl (by kernel_rfl) (by kernel_rfl) (by kernel_rfl) (fun _ _ _ h => h) (Or.inl ⟨by rfl, by intro W hSW; (try dsimp only at hSW); go_simp; try (with_reducible rfl)⟩) hHeld ?_
        try simp only [Act.put, List.getElem_toArray, List.getElem_cons_zero, List.getElem_cons_succ, List.setIfInBounds_toArray, List.set_cons_zero, List.set_cons_succ]
        have cD6 : w6.cell? ⟨D, 1, none⟩ = some v := HG6.out.1.2.2.cell 1
        have fD6 : w6.frozen? ⟨D, 1, none⟩ = false := HG6.out.1.2.2.frozen 1
        refine wpAnyH_ready (rs := [7]) (by kernel_rfl) (by simp) ?_
        refine AllReadyH.cons rfl (fun K hK => ?_) AllReadyH.nil
        go_simp
        refine hK.out _ _ trivial ?_
        clear hK K hHeld
        intro hHeld
        try simp only [Act.put, List.getElem_toArray, List.getElem_cons_zero, List.getElem_cons_succ, List.setIfInBounds_toArray, List.set_cons_zero, List.set_cons_succ]
        refine wpAnyH_done (by kernel_rfl) ?_ _
        refine NoPanic.normal ?_
        go_wp2_with fail
        clear cD cD2 cD6 fD6
        go_roundw
        case rel =>
          refine ⟨k + 1, _, by omega, by go_num, HG6.out.set1 HD.out HG.out _, ?_⟩
          rw [HWN.out, ← ints_app1]
          exact ownk_keep H2.out fun gg hb hlt => Below.heap_setCell _ ⟨D, 1, none⟩ _ gg (by show gg ≠ D; omega)
        case measure => simp [intOf]; omega
      · go_simp
        refine (HSK.out _ HDR.out).mono ?_
        rintro e w5 ⟨rfl, hr5, hg5⟩
        have hg5' : wr.grownBy w5 (some g) := only_to HDG.out hg5
        have HG5 := Lib.hid (HGK.out.num HD.out HG.out hr5 hg5')
        have HO5 := Lib.hid (ownk_keep HOW.out fun gg hb hlt => hg5'.block gg hlt (fun e => by injection e with e; have := HG.out; have := HD.out; omega))
        clear hr5 hg5 hg5'
        have cD5' : w5.cell? ⟨D, 1, none⟩ = some v := HG5.out.1.2.2.cell 1
        try go_wp2_with fail
        refine hK.out _ _ trivial ?_
        clear hK K hHeld
        intro hHeld
        try simp only [Act.put, List.getElem_toArray, List.getElem_cons_zero, List.getElem_cons_succ, List.setIfInBounds_toArray, List.set_cons_zero, List.set_cons_succ]
        have cDA : (w5.alloc (.cells #[.int .i64 x] 2)).cell? ⟨D, 1, none⟩ = some v := (HG5.out.alloc HD.out HG.out _).1.2.2.cell 1
        refine wpAnyH_ready (rs := [1, 4]) (by kernel_rfl) (by simp) ?_
        refine AllReadyH.cons rfl (fun K hK => ?_) (AllReadyH.cons rfl (fun K hK => ?_) AllReadyH.nil)
        · go_simp
          refine hK.out _ _ trivial ?_
          clear hK K hHeld
          intro hHeld
          try simp only [Act.put, List.getElem_toArray, List.getElem_cons_zero, List.getElem_cons_succ, List.setIfInBounds_toArray, List.set_cons_zero, List.set_cons_succ]
          clear cD5' cDA
          refine wpAnyH_ready (rs := [4]) (by kernel_rfl) (by simp) ?_
          refine AllReadyH.cons rfl (fun K hK => ?_) AllReadyH.nil
          go_simp
          refine hK.out _ _ trivial ?_
          clear hK K hHeld
          intro hHeld
          try simp only [Act.put, List.getElem_toArray, List.getElem_cons_zero, List.getElem_cons_succ, List.setIfInBounds_toArray, List.set_cons_zero, List.set_cons_succ]
          refine wpAnyH_ready (rs := [5]) (by kernel_rfl) (by simp) ?_
          refine AllReadyH.cons rfl (fun K hK => ?_) AllReadyH.nil
          refine step_append_own rfl _ _ 22 rfl (D + 1) 2 iW (.int .i64 0) 1 8 Tryd.underlying22 hiW hzW0 hzW1 hzW2 rfl (by decide) _ k (ints (wds l k s2)) rfl (ownk_keep HO5.out fun gg hb hlt => Below.heap_alloc _ _ _ hlt) ⟨w5.heap.size, 0, none⟩ 1 [.int .i64 x] rfl rfl (fun j u hu => by rw [add_plain, Nat.zero_add]; exact ((Blk.new w5 2 #[.int .i64 x]).cell j).trans (by simpa using hu)) (by simp [Value.oneCell']) (by unfold maxLen; omega) (by omega) (by have := HG5.out.1.2.2.lt; simp; omega) ?_
          intro v' w6 h2 h3
          obtain ⟨A', c', rfl⟩ := own_formW h2
          have H2 := Lib.hid h2
          have H3 := Lib.hid h3
          clear h2 h3
          have HG6 := Lib.hid ((HG5.out.alloc HD.out HG.out _).grow HD.out HG.out H3.out fun r e => by have := (HO5.out.lt r e).1; omega)
          refine hK.out _ _ trivial ?_
          clear hK K hHeld
          intro hHeld
          try simp only [Act.put, List.getElem_toArray, List.getElem_cons_zero, List.getElem_cons_succ, List.setIfInBounds_toArray, List.set_cons_zero, List.set_cons_succ]
          refine wpAnyH_take (i := 6) rfl (by kernel_rfl) (by kernel_rfl) (by kernel_rfl) (fun _ _ _ h => h) (Or.inl ⟨by rfl, by intro W hSW; (try dsimp only at hSW); go_simp; try (with_reducible rfl)⟩) hHeld ?_
          try simp only [Act.put, List.getElem_toArray, List.getElem_cons_zero, List.getElem_cons_succ, List.setIfInBounds_toArray, List.set_cons_zero, List.set_cons_succ]
          have cD6 : w6.cell? ⟨D, 1, none⟩ = some v := HG6.out.1.2.2.cell 1
          have fD6 : w6.frozen? ⟨D, 1, none⟩ = false := HG6.out.1.2.2.frozen 1
          refine wpAnyH_ready (rs := [7]) (by kernel_rfl) (by simp) ?_
          refine AllReadyH.cons rfl (fun K hK => ?_) AllReadyH.nil
          go_simp
          refine hK.out _ _ trivial ?_
          clear hK K hHeld
          intro hHeld
          try simp only [Act.put, List.getElem_toArray, List.getElem_cons_zero, List.getElem_cons_succ, List.setIfInBounds_toArray, List.set_cons_zero, List.set_cons_succ]
          refine wpAnyH_done (by kernel_rfl) ?_ _
          refine NoPanic.normal ?_
          go_wp2_with fail
          clear cD cD2 cD6 fD6
          go_roundw
          case rel =>
            refine ⟨k + 1, _, by omega, by go_num, HG6.out.set1 HD.out HG.out _, ?_⟩
            rw [HWN.out, ← ints_app1]
            exact ownk_keep H2.out fun gg hb hlt => Below.heap_setCell _ ⟨D, 1, none⟩ _ gg (by show gg ≠ D; omega)
          case measure => simp [intOf]; omega
        · go_simp
          refine hK.out _ _ trivial ?_
          clear hK K hHeld
          intro hHeld
          try simp only [Act.put, List.getElem_toArray, List.getElem_cons_zero, List.getElem_cons_succ, List.setIfInBounds_toArray, List.set_cons_zero, List.set_cons_succ]
          refine wpAnyH_ready (rs := [1]) (by kernel_rfl) (by simp) ?_
          refine AllReadyH.cons rfl (fun K hK => ?_) AllReadyH.nil
          go_simp
          refine hK.out _ _ trivial ?_
          clear hK K hHeld
          intro hHeld
          try simp only [Act.put, List.getElem_toArray, List.getElem_cons_zero, List.getElem_cons_succ, List.setIfInBounds_toArray, List.set_cons_zero, List.set_cons_succ]
          clear cD5' cDA
          refine wpAnyH_ready (rs := [5]) (by kernel_rfl) (by simp) ?_
          refine AllReadyH.cons rfl (fun K hK => ?_) AllReadyH.nil
          refine step_append_own rfl _ _ 22 rfl (D + 1) 2 iW (.int .i64 0) 1 8 Tryd.underlying22 hiW hzW0 hzW1 hzW2 rfl (by decide) _ k (ints (wds l k s2)) rfl (ownk_keep HO5.out fun gg hb hlt => Below.heap_alloc _ _ _ hlt) ⟨w5.heap.size, 0, none⟩ 1 [.int .i64 x] rfl rfl (fun j u hu => by rw [add_plain, Nat.zero_add]; exact ((Blk.new w5 2 #[.int .i64 x]).cell j).trans (by simpa using hu)) (by simp [Value.oneCell']) (by unfold maxLen; omega) (by omega) (by have := HG5.out.1.2.2.lt; simp; omega) ?_
          intro v' w6 h2 h3
          obtain ⟨A', c', rfl⟩ := own_formW h2
          have H2 := Lib.hid h2
          have H3 := Lib.hid h3
          clear h2 h3
          have HG6 := Lib.hid ((HG5.out.alloc HD.out HG.out _).grow HD.out HG.out H3.out fun r e => by have := (HO5.out.lt r e).1; omega)
          refine hK.out _ _ trivial ?_
          clear hK K hHeld
          intro hHeld
          try simp only [Act.put, List.getElem_toArray, List.getElem_cons_zero, List.getElem_cons_succ, List.setIfInBounds_toArray, List.set_cons_zero, List.set_cons_succ]
          refine wpAnyH_take (i := 6) rfl (by kernel_rfl) (by kernel_rfl) (by kernel_rfl) (fun _ _ _ h => h) (Or.inl ⟨by rfl, by intro W hSW; (try dsimp only at hSW); go_simp; try (with_reducible rfl)⟩) hHeld ?_
          try simp only [Act.put, List.getElem_toArray, List.getElem_cons_zero, List.getElem_cons_succ, List.setIfInBounds_toArray, List.set_cons_zero, List.set_cons_succ]
          have cD6 : w6.cell? ⟨D, 1, none⟩ = some v := HG6.out.1.2.2.cell 1
          have fD6 : w6.frozen? ⟨D, 1, none⟩ = false := HG6.out.1.2.2.frozen 1
          refine wpAnyH_ready (rs := [7]) (by kernel_rfl) (by simp) ?_
          refine AllReadyH.cons rfl (fun K hK => ?_) AllReadyH.nil
          go_simp
          refine hK.out _ _ trivial ?_
          clear hK K hHeld
          intro hHeld
          try simp only [Act.put, List.getElem_toArray, List.getElem_cons_zero, List.getElem_cons_succ, List.setIfInBounds_toArray, List.set_cons_zero, List.set_cons_succ]
          refine wpAnyH_done (by kernel_rfl) ?_ _
          refine NoPanic.normal ?_
          go_wp2_with fail
          clear cD cD2 cD6 fD6
          go_roundw
          case rel =>
            refine ⟨k + 1, _, by omega, by go_num, HG6.out.set1 HD.out HG.out _, ?_⟩
            rw [HWN.out, ← ints_app1]
            exact ownk_keep H2.out fun gg hb hlt => Below.heap_setCell _ ⟨D, 1, none⟩ _ gg (by show gg ≠ D; omega)
          case measure => simp [intOf]; omega
    · obtain rfl : k = N1 := by omega
      obtain ⟨AW, cW, rfl⟩ := own_formW HOW.out
      rw [HS3.out] at HGK
      have HNB := Lib.hid hN1B
      have HV1 := Lib.hid (show ∀ r, Value.ownBlock (.slice AW k cW) = some r → r < wr.heap.size from fun r e => (HOW.out.lt r e).2)
      obtain ⟨B2, hB2⟩ : ∃ B, wr.heap.size = B := ⟨_, rfl⟩
      have HB2 := Lib.hid hB2
      rw [hB2] at HV1
      have HDB := Lib.hid (show D < B2 by rw [← hB2]; exact HGK.out.1.2.2.lt)
      clear hk hlt hN1B hB2
      go_wp2_with fail
      refine (HN2.out wr HGK.out.1.1).mono ?_
      rintro e w3 ⟨rfl, hr3, hg3⟩
      have HGI3 := Lib.hid (HGK.out.num HD.out HG.out hr3 hg3)
      have HO3 := Lib.hid (ownk_keep HOW.out fun gg hb hlt => hg3.block gg hlt (fun e => by injection e with e; have := HG.out; have := HD.out; omega))
      have HS3' := Lib.hid (show B2 ≤ w3.heap.size by have := HB2.out; have := hg3.size; omega)
      clear hr3 hg3 HOW HGK HB2
      go_wp2_with fail
      go_loopw [24] (fun i wr => ∃ (q : Nat) (v : Value) (xs : List Rl) (st : Std), q ≤ N2 ∧ i = .int .i64 (q : Int) ∧ GI w g A c l D kd st (.slice AW k cW) v wr ∧ wr.ownsRow (D + 1) 2 1 (.slice AW k cW) k (ints (wds l k s2)) ∧ wr.ownsRow B2 51 3 v q (flRl xs) ∧ Hid (B2 ≤ wr.heap.size) ∧ Hid (xs.length = q) ∧ Hid ((rfs l N2 s4).1 = (rfs l (N2 - q) st).1.map (xs ++ ·) ∧ (rfs l N2 s4).2 = (rfs l (N2 - q) st).2)) (fun i _ => N2 - (intOf i).toNat)
      case atStart => exact ⟨0, _, [], s4, Nat.zero_le _, rfl, HGI3.out, HO3.out, World.ownsRow_nil _ _ _ _, HS3', Lib.hid rfl, Lib.hid ⟨by simp, rfl⟩⟩
      case round =>
        obtain ⟨q, v, xs, st, hq, rfl, hgi, hrow, hown, HSZ, HXL, HINV⟩ := hrel
        have HGK := Lib.hid hgi
        have HRW := Lib.hid hrow
        have HOW := Lib.hid hown
        clear hgi hrow hown
        by_cases hlt : q < N2
        · have hqI : (q : Int) < (N2 : Int) := by omega
          have hsub : N2 - q = (N2 - (q + 1)) + 1 := by omega
          have HT := Lib.hid (HTK.out wr st HGK.out.1.1)
          unfold TkAns at HT
          by_cases h1 : 1 < tkW l st
          · have e0 : decide (tkW l st ≤ 1) = false := by simp; omega
            have e1 : tkR l st = (0, 0, false) := by unfold tkR; rw [if_pos h1]
            rw [e0, e1] at HT
            have HF := Lib.hid (show (rfs l N2 s4).1 = none ∧ (rfs l N2 s4).2 = t3 l st from by rw [HINV.out.1, HINV.out.2, hsub, rfs, if_pos h1]; exact ⟨rfl, rfl⟩)
            clear h1 e0 e1 hsub
            go_wp2_with fail
            refine HT.out.mono ?_
            rintro e w5 ⟨rfl, hr5, hg5⟩
            have HP := Lib.hid (GI.putR HG.out (HGK.out.num HD.out HG.out hr5 hg5) (.int .i64 0) (.slice none 0 0) (.slice none 0 0))
            have HR5 := Lib.hid (show w.heap.size < w5.heap.size by have := (HGK.out.num HD.out HG.out hr5 hg5).1.2.2.lt; have := HD.out; omega)
            obtain ⟨r0, r1, r2⟩ := blk_ce3 (HGK.out.num HD.out HG.out hr5 hg5).1.2.1
            obtain ⟨q0, q1, q2⟩ := blk_fr3 (HGK.out.num HD.out HG.out hr5 hg5).1.2.1
            have hlt5 := HR5.out
            clear hr5 hg5
            go_wp2_with fail
            obtain ⟨x0, x1, x2⟩ := blk_ce3 (HP.out.2.1.alloc (.cells #[.int .i64 0, .int .i64 0, .bool false] 51))
            refine bodyPost_ret (v := .tuple #[.agg #[.int .i64 0, .slice none 0 0, .slice none 0 0], .int .i64 3]) (by simp [results, Tryd.results18, go_sem, x0, x1, x2]) rfl ?_
            have hd : gdV l s = ⟨0, [], [], 3⟩ := by rw [HGD.out, HF.out.1]
            rw [hd, HGR.out, HF.out.2]
            exact ⟨none, 0, none, 0, rfl, .nil, Wd.nil, rdS_below HP.out.1 (alloc_ _ _) (by simp [World.setCell]; have := HG.out; omega), only_alloc HP.out.2.2 _⟩
          · have e0 : decide (tkW l st ≤ 1) = true := by simp; omega
            have e1 : tkR l st = tkX l st := by unfold tkR; rw [if_neg h1]
            rw [e0, e1] at HT
            have HINV2 := Lib.hid (show (rfs l N2 s4).1 = (rfs l (N2 - (q + 1)) (t3 l st)).1.map ((xs ++ [tkX l st]) ++ ·) ∧ (rfs l N2 s4).2 = (rfs l (N2 - (q + 1)) (t3 l st)).2 from by
              rw [HINV.out.1, HINV.out.2, hsub, rfs, if_neg h1]
              refine ⟨?_, rfl⟩
              rw [Option.map_map]
              congr 1
              funext y
              simp)
            generalize tkX l st = x at HT HINV2
            clear h1 e0 e1 hsub HINV
            have HNB2 := Lib.hid hN2B
            go_wp2_with fail
            refine HT.out.mono ?_
            rintro e w5 ⟨rfl, hr5, hg5⟩
            have HG5 := Lib.hid (HGK.out.num HD.out HG.out hr5 hg5)
            have hne : ∀ gg, D + 1 ≤ gg → gg < wr.heap.size → w5.heap[gg]? = wr.heap[gg]? := fun gg hb hlt => hg5.block gg hlt (fun e => by injection e with e; have := HG.out; have := HD.out; omega)
            have HRW5 := Lib.hid (ownk_keep HRW.out hne)
            have HOW5 := Lib.hid (ownk_keep HOW.out fun gg hb hlt => hne gg (by have := HDB.out; omega) hlt)
            have HSZ5 := Lib.hid (show B2 ≤ w5.heap.size by have := HSZ.out; have := hg5.size; omega)
            have cD : w5.cell? ⟨D, 2, none⟩ = some v := HG5.out.1.2.2.cell 2
            have hDl : D < w5.heap.size := HG5.out.1.2.2.lt
            have hB5 : Below w5.heap.size w5 ((w5.alloc (.cells #[.int .i64 x.1, .int .i64 x.2.1, .bool x.2.2] 51)).alloc (.cells #[.int .i64 x.1, .int .i64 x.2.1, .bool x.2.2] 51)) := to_ (alloc_ _ _) (alloc_ _ _)
            have HB5 := Lib.hid hB5
            clear hr5 hg5 hne hB5
            go_wp2_with (at_builtin; go_loud (refine wpList_append_own _ rfl _ _ 23 rfl B2 51 iR (.agg #[.int .i64 0, .int .i64 0, .bool false]) 3 24 Tryd.underlying23 hiR hzR0 hzR1 hzR2 rfl (by decide) _ _ _ rfl (ownk_keep HOW5.out fun gg hb hlt => HB5.out.block gg hlt) ⟨w5.heap.size + 1, 0, none⟩ 1 1 (encRl x) rfl rfl (fun j u hu => by rw [add_plain, Nat.zero_add]; have h9 := (Blk.new (w5.alloc (.cells #[.int .i64 x.1, .int .i64 x.2.1, .bool x.2.2] 51)) 51 #[.int .i64 x.1, .int .i64 x.2.1, .bool x.2.2]).cell j; rw [World.size_alloc] at h9; exact h9.trans (by simpa [encRl] using hu)) (by simp [encRl, Value.oneCell']) (by unfold maxLen; omega) (by omega) (by have := HSZ5.out; simp; omega) ?_; intro v' w6 h2 h3 h4; clear h4; rw [flRl_snoc] at h2; obtain ⟨A', c', rfl⟩ := own_formW h2; have H2 := Lib.hid h2; have H3 := Lib.hid h3; have HG6 := Lib.hid (((HG5.out.alloc HD.out HG.out _).alloc HD.out HG.out _).grow HD.out HG.out h3 fun r e => by have := (HOW5.out.lt r e).1; have := HDB.out; omega); have cD6 : w6.cell? ⟨D, 2, none⟩ = some v := HG6.out.1.2.2.cell 2; have fD6 : w6.frozen? ⟨D, 2, none⟩ = false := HG6.out.1.2.2.frozen 2; clear h2 h3))
            go_roundw
            case rel =>
              refine ⟨q + 1, _, xs ++ [x], t3 l st, by omega, by go_num, HG6.out.set2 HD.out HG.out _, ?_, ?_, Lib.hid ?_, Lib.hid (by rw [List.length_append, HXL.out]; rfl), HINV2⟩
              · refine own_keep1 HRW5.out fun gg hb hlt hr => ?_
                have h1 := HV1.out gg hr
                have h5 := HSZ5.out
                exact (Below.heap_setCell _ ⟨D, 2, none⟩ _ gg (by show gg ≠ D; omega)).trans ((H3.out.block gg (by have := HB5.out.size; omega) (fun e => by have := (HOW5.out.lt gg e.symm).1; omega)).trans (HB5.out.block gg hlt))
              · exact ownk_keep H2.out fun gg hb hlt => Below.heap_setCell _ ⟨D, 2, none⟩ _ gg (by show gg ≠ D; have := HDB.out; omega)
              · have h1 := H3.out.size
                have h2 := HB5.out.size
                have h3 := HSZ5.out
                simp [World.setCell]; omega
            case measure => simp [intOf]; omega
        · obtain rfl : q = N2 := by omega
          have hb := HBD.out wr st HGK.out.1.1
          obtain ⟨bl, hbl⟩ : ∃ bl, st.2 = bl := ⟨_, rfl⟩
          rw [hbl] at hb
          have HB := Lib.hid hb
          have hz := HINV.out
          rw [Nat.sub_self] at hz
          have HZ := Lib.hid (show (rfs l q s4).1 = some xs ∧ (rfs l q s4).2 = st from by rw [hz.1, hz.2]; unfold rfs; simp)
          obtain ⟨r0, r1, r2⟩ := blk_ce3 HGK.out.1.2.1
          obtain ⟨q0, q1, q2⟩ := blk_fr3 HGK.out.1.2.1
          cases bl with
          | false =>
            have HP := Lib.hid (GI.putR HG.out HGK.out (.int .i64 0) (.slice none 0 0) (.slice none 0 0))
            have HF := Lib.hid (show gdV l s = ⟨0, [], [], 5⟩ from by rw [HGD.out, HZ.out.1, HZ.out.2]; simp [hbl])
            clear hz hb hbl
            go_wp2_with (go_at_call 41; refine HB.out.mono ?_; rintro e w10 ⟨rfl, rfl⟩)
            obtain ⟨x0, x1, x2⟩ := blk_ce3 HP.out.2.1
            refine bodyPost_ret (v := .tuple #[.agg #[.int .i64 0, .slice none 0 0, .slice none 0 0], .int .i64 5]) (by simp [results, Tryd.results18, go_sem, x0, x1, x2]) rfl ?_
            rw [HF.out, HGR.out, HZ.out.2]
            exact ⟨none, 0, none, 0, rfl, .nil, Wd.nil, HP.out.1, HP.out.2.2⟩
          | true =>
            obtain ⟨AR, cR, rfl, hl⟩ := RlL.own HXL.out HOW.out
            have HL := Lib.hid hl
            have HP := Lib.hid (GI.putR HG.out HGK.out (.int .i64 kd) (.slice AW k cW) (.slice AR q cR))
            have HF := Lib.hid (show gdV l s = ⟨kd, wds l k s2, xs, 0⟩ from by rw [HGD.out, HZ.out.1, HZ.out.2]; simp [hbl])
            obtain ⟨d0, d1, d2⟩ := blk_ce3 HGK.out.1.2.2
            have HWL := Lib.hid (wds_len l k s2)
            clear hz hb hbl hl
            go_wp2_with (go_at_call 41; refine HB.out.mono ?_; rintro e w10 ⟨rfl, rfl⟩)
            obtain ⟨x0, x1, x2⟩ := blk_ce3 HP.out.2.1
            refine bodyPost_ret (v := .tuple #[.agg #[.int .i64 kd, .slice AW k cW, .slice AR q cR], .int .i64 0]) (by simp [results, Tryd.results18, go_sem, x0, x1, x2]) rfl ?_
            rw [HF.out, HGR.out, HZ.out.2]
            refine ⟨AW, cW, AR, cR, ?_, ?_, ?_, HP.out.1, HP.out.2.2⟩
            · simp only [HWL.out, HXL.out]
            · simp only [HWL.out]
              have h9 := ownk_keep (w' := (((wr.setCell ⟨w.heap.size, 0, none⟩ (.int .i64 kd)).setCell ⟨w.heap.size, 1, none⟩ (.slice AW k cW)).setCell ⟨w.heap.size, 2, none⟩ (.slice AR q cR))) HRW.out fun gg hb hlt => heap_put3 wr w.heap.size gg (by have := HD.out; omega) _ _ _
              exact SlV.of_own h9
            · simp only [HXL.out]
              have h9 := ownk_keep (w' := (((wr.setCell ⟨w.heap.size, 0, none⟩ (.int .i64 kd)).setCell ⟨w.heap.size, 1, none⟩ (.slice AW k cW)).setCell ⟨w.heap.size, 2, none⟩ (.slice AR q cR))) HOW.out fun gg hb hlt => heap_put3 wr w.heap.size gg (by have := HD.out; have := HDB.out; omega) _ _ _
              obtain ⟨A9, c9, e9, h9⟩ := RlL.own HXL.out h9
              injection e9 with e1 e2 e3
              subst e1 e3
              exact h9
end Go.Proofs.YthkbdclnnpcoiaaDoor.By
