/-
  WALKS of layer 14: the document's own Graph.
-/
import Derived.Test.YthkbdclnnpcoiaaUe
namespace Go.Proofs.Ythkbdclnnpcoiaa.By
open Go.RowKit
open Mem Gm Rf

/-- Rows that were appended to a list of the call's own. -/
def GA (W : World) (base : Nat) (v : Value) (k : Nat) (rs : List Value) (F : Nat → List Int) : Prop :=
  rs.length = k ∧ W.ownsRow base 22 1 v k rs ∧ ∀ i rv, rs[i]? = some rv → Rw W base rv (F i) ∧ ∀ r, rv.ownBlock = some r → v.ownBlock ≠ some r

theorem GA.below {W W' : World} {base k : Nat} {v : Value} {rs : List Value} {F : Nat → List Int} (h : GA W base v k rs F) (hb : Below W.heap.size W W') : GA W' base v k rs F :=
  ⟨h.1, own_keep h.2.1 fun g _ hg _ => hb.block g hg, fun i rv hi => ⟨((h.2.2 i rv hi).1).below hb, (h.2.2 i rv hi).2⟩⟩

theorem GA.push {wr w2 w4 : World} {base k : Nat} {v v' nv : Value} {rs : List Value} {F : Nat → List Int} (h : GA wr base v k rs F) (hb2 : Below wr.heap.size wr w2) (hn : Rw w2 wr.heap.size nv (F k)) (hB : base ≤ wr.heap.size) (o : Obj)
    (h2 : w4.ownsRow base 22 1 v' (k + 1) (rs ++ [nv])) (h3 : (w2.alloc o).grownBy w4 v.ownBlock) (h5 : v'.ownBlock = v.ownBlock ∨ v'.ownBlock = some (w2.alloc o).heap.size) : GA w4 base v' (k + 1) (rs ++ [nv]) F := by
  have hvlt : ∀ r, v.ownBlock = some r → r < wr.heap.size := fun r e => (h.2.1.lt r e).2
  have key : ∀ rv l, Rw w2 base rv l → (∀ r, rv.ownBlock = some r → v.ownBlock ≠ some r) → Rw w4 base rv l ∧ ∀ r, rv.ownBlock = some r → v'.ownBlock ≠ some r := fun rv l hr hne => by
    refine ⟨hr.keep fun g hg hlt he => ?_, fun r e => ?_⟩
    · exact (h3.block g (by simp; omega) (fun e => hne g he e.symm)).trans (Below.heap_alloc _ _ _ hlt)
    · have hlt := (hr.lt e).2
      rcases h5 with h5 | h5
      · rw [h5]; exact hne r e
      · rw [h5]; intro e2; injection e2 with e2; simp at e2; omega
  refine ⟨by rw [List.length_append, h.1]; rfl, h2, fun i rv hi => ?_⟩
  by_cases e : i < k
  · rw [List.getElem?_append_left (by rw [h.1]; exact e)] at hi
    have h9 := (h.below hb2).2.2 i rv hi
    exact key rv _ h9.1 h9.2
  · have hik : i = k := by have := (List.getElem?_eq_some_iff.1 hi).1; rw [List.length_append, h.1] at this; simp at this; omega
    subst hik
    rw [List.getElem?_append_right (by rw [h.1]; exact Nat.le_refl _), h.1, Nat.sub_self] at hi
    have : nv = rv := by simpa using hi
    subst this
    exact key nv _ (hn.less hB) fun r e e2 => by have h8 := (hn.lt e).1; have h9 := hvlt r e2; omega

theorem GA.gr {W : World} {base n : Nat} {v : Value} {rs : List Value} {O T : Nat → Int} (h : GA W base v n rs fun i => nxt n O T (i : Int)) : ∃ A c, v = .slice A n c ∧ Gr W W.heap.size (.slice A n c) (gph n O T) := by
  obtain ⟨A, c, rfl⟩ := own_form h.2.1
  refine ⟨A, c, rfl, rs, ?_, by rw [gph_length]; exact h.1, fun i rv hi => ?_⟩
  · exact SlV.of_own h.2.1
  · have hj : i < n := by have := (List.getElem?_eq_some_iff.1 hi).1; rw [h.1] at this; exact this
    rw [gph_row _ _ hj]
    exact (h.2.2 i rv hi).1.slv

set_option maxRecDepth 100000 in
set_option maxHeartbeats 2000000 in
theorem rgraph_any (w : World) (A : Option Addr) (n c : Nat) (O T : Nat → Int) (h : Cd w w.heap.size A n c O T) (hn : n ≤ 1000) :
    Calls Try.prog 22 #[.slice A n c] w (GAns w (gph n O T)) := by
  obtain ⟨i0, hi, hz0, hz1, hz2⟩ := info_parts infoR
  have HN := Lib.hid (fun W (hb : Below w.heap.size w W) (i : Int) => rnext_any W A n c O T ((h.below hb).more hb.size) i)
  have HL := Lib.hid (gph_length n O T)
  clear h
  go_enter Try.func22, Try.ntmps22
  go_wp2_with fail
  go_loopw [3, 4] (fun v i wr => ∃ (k : Nat) (rs : List Value), k ≤ n ∧ i = .int .i64 (k : Int) ∧ GA wr w.heap.size v k rs (fun i => nxt n O T (i : Int)) ∧ Below w.heap.size w wr) (fun _ i _ => n - (intOf i).toNat)
  case atStart => exact ⟨0, [], Nat.zero_le _, rfl, ⟨rfl, World.ownsRow_nil _ _ _ _, fun i rv hi => by simp at hi⟩, Below.refl _ _⟩
  case round =>
    obtain ⟨k, rs, hk, rfl, hga, hbel⟩ := hrel
    by_cases hlt : k < n
    · have hkI : (k : Int) < (n : Int) := by omega
      have HGA := Lib.hid hga
      have HBE := Lib.hid hbel
      clear hga hbel
      go_wp2_with (first
        | (go_at_call 20; refine (HN.out wr HBE.out (k : Int)).mono ?_; rintro e w2 ⟨nv, rfl, hrw, hb2⟩; have HRW := Lib.hid hrw; have HB2 := Lib.hid hb2; obtain ⟨A2, c2, rfl, _⟩ := hrw; clear hb2)
        | (at_builtin; refine wpList_append_wh _ rfl _ _ 48 rfl w.heap.size 22 i0 (.slice none 0 0) 1 24 Try.underlying48 hi hz0 hz1 hz2 rfl (by decide) _ _ _ rfl (own_keep (HGA.out.below HB2.out).2.1 fun g _ hg _ => Below.heap_alloc _ _ _ hg) ⟨w2.heap.size, 0, none⟩ 1 1 [.slice A2 (nxt n O T (k : Int)).length c2] (by decide) rfl rfl (fun j u hu => by (rw [add_plain, Nat.zero_add, (Blk.new w2 _ _).cell]; simpa using hu)) (by simp [Value.oneCell']) (by unfold maxLen; omega) (by omega) (by have := HBE.out.size; have := HB2.out.size; simp; omega) ?_; intro v' w4 h2 h3 h5; have H2 := Lib.hid h2; have H3 := Lib.hid h3; have H5 := Lib.hid h5; clear h2 h3 h5))
      go_roundw
      case rel =>
        have hbx : Below w.heap.size w (w2.alloc (.cells #[.slice A2 (nxt n O T (k : Int)).length c2] 22)) := (HBE.out.trans (HB2.out.mono HBE.out.size)).alloc (Nat.le_trans HBE.out.size HB2.out.size) _
        exact ⟨k + 1, rs ++ [.slice A2 (nxt n O T (k : Int)).length c2], by omega, by go_num, HGA.out.push HB2.out HRW.out HBE.out.size _ H2.out H3.out H5.out, hbx.grown H3.out hbx.size fun r e => (HGA.out.2.1.lt r e).1⟩
      case measure => simp [intOf]; omega
    · obtain rfl : k = n := by omega
      obtain ⟨A2, c2, rfl, hgr⟩ := hga.gr
      have HGR := Lib.hid hgr
      have HBE := Lib.hid hbel
      clear hga hbel hgr
      go_wp2_with fail
      go_ret
      refine ⟨A2, c2, ?_, ?_, HBE.out⟩
      · rw [HL.out]; rfl
      · rw [HL.out]; exact HGR.out
end Go.Proofs.Ythkbdclnnpcoiaa.By
