/-
  MATHEMATICS of layer 11: the ends of a place that leaves the queue, one after another, each come one down.
-/
import Derived.Test.YtlfgnoicjogfpaaCt
namespace Go.Proofs.Ytlfgnoicjogfpaa.By
open Go.RowKit
open Mem Gm Rf Hp Qu

/-- What waits when the place p has left and the ends told so far have come down. -/
def SM (N : Nat) (R : Nat → Nat → Bool) (T : Nat → Bool) (p : Nat) (pre : List (Nat × Int)) (y : It) : Prop :=
  ∃ e, e < N ∧ minus T p e = true ∧ y = ((e : Int), (cntT N R T e : Int) - (if e ∈ pre.map (·.1) then 1 else 0))
/-- The key of an end, if it waits. -/
def kfM (N : Nat) (R : Nat → Nat → Bool) (T : Nat → Bool) (p : Nat) (e : Nat) : Option Int := if minus T p e = true then some (cntT N R T e : Int) else none
def endsM (N : Nat) (R : Nat → Nat → Bool) (p : Nat) : List Nat := (List.range N).filter (R p)
theorem endsM_nodup (N : Nat) (R : Nat → Nat → Bool) (p : Nat) : (endsM N R p).Nodup := List.nodup_range.filter _
theorem endsM_mem {N : Nat} {R : Nat → Nat → Bool} {p e : Nat} : e ∈ endsM N R p ↔ e < N ∧ R p e = true := by
  unfold endsM; rw [List.mem_filter, List.mem_range]

variable {N : Nat} {R : Nat → Nat → Bool} {T : Nat → Bool} {p : Nat}

theorem sm_nil (y : It) : SM N R T p [] y ↔ SQ N R T y ∧ y ≠ ((p : Int), (cntT N R T p : Int)) := by
  constructor
  · rintro ⟨e, he, hm, rfl⟩
    unfold minus at hm
    rw [Bool.and_eq_true] at hm
    refine ⟨⟨e, he, hm.1, by simp⟩, fun h => ?_⟩
    have h1 : (e : Int) = (p : Int) := congrArg Prod.fst h
    have h2 : e = p := by omega
    subst h2
    simp at hm
  · rintro ⟨⟨e, he, hT, rfl⟩, hne⟩
    have hep : e ≠ p := fun h => hne (by rw [h])
    exact ⟨e, he, by rw [minus_ne hep]; exact hT, by simp⟩

theorem told_fst {kf : Nat → Option Int} {l : List Nat} {e : Nat} : e ∈ (toldK kf l).map (·.1) ↔ e ∈ l ∧ (kf e).isSome = true := by
  constructor
  · intro h
    obtain ⟨x, hx, rfl⟩ := List.mem_map.1 h
    have := toldK_mem hx
    exact ⟨this.1, by rw [this.2]; rfl⟩
  · rintro ⟨h1, h2⟩
    obtain ⟨k, hk⟩ := Option.isSome_iff_exists.1 h2
    exact List.mem_map.2 ⟨(e, k), List.mem_filterMap.2 ⟨e, h1, by rw [hk]; rfl⟩, rfl⟩

theorem told_nodup {kf : Nat → Option Int} : ∀ {l : List Nat}, l.Nodup → ((toldK kf l).map (·.1)).Nodup
  | [], _ => List.nodup_nil
  | a :: l, h => by
    have ih := told_nodup (kf := kf) (List.nodup_cons.1 h).2
    cases hk : kf a with
    | none => 
      have : toldK kf (a :: l) = toldK kf l := by unfold toldK; rw [List.filterMap_cons, hk]; rfl
      rw [this]; exact ih
    | some k => 
      have : toldK kf (a :: l) = (a, k) :: toldK kf l := by unfold toldK; rw [List.filterMap_cons, hk]; rfl
      rw [this, List.map_cons, List.nodup_cons]
      exact ⟨fun hm => (List.nodup_cons.1 h).1 (told_fst.1 hm).1, ih⟩

theorem sm_end (hp : p < N) (hT : T p = true) (y : It) : SM N R T p (toldK (kfM N R T p) (endsM N R p)) y ↔ SQ N R (minus T p) y := by
  have key : ∀ e, e < N → minus T p e = true → ((cntT N R T e : Nat) : Int) - (if e ∈ (toldK (kfM N R T p) (endsM N R p)).map (·.1) then 1 else 0) = ((cntT N R (minus T p) e : Nat) : Int) := fun e he hm => by
    have h1 := cnt_minus (R := R) (e := e) hp hT
    have h2 : e ∈ (toldK (kfM N R T p) (endsM N R p)).map (·.1) ↔ R p e = true := by
      rw [told_fst, endsM_mem]
      unfold kfM
      rw [if_pos hm]
      exact ⟨fun h => h.1.2, fun h => ⟨⟨he, h⟩, rfl⟩⟩
    by_cases hr : R p e = true
    · rw [if_pos (h2.2 hr)]; rw [if_pos hr] at h1; omega
    · rw [if_neg fun h => hr (h2.1 h)]; rw [if_neg hr] at h1; omega
  constructor
  · rintro ⟨e, he, hm, rfl⟩
    exact ⟨e, he, hm, by rw [key e he hm]⟩
  · rintro ⟨e, he, hm, rfl⟩
    exact ⟨e, he, hm, by rw [key e he hm]⟩

/-- A round: the end told next waits with its key, and was not told yet. -/
theorem sm_next {pre : List (Nat × Int)} {x : Nat × Int} (h : pre ++ [x] <+: toldK (kfM N R T p) (endsM N R p)) :
    x.1 < N ∧ x.2 = (cntT N R T x.1 : Int) ∧ SM N R T p pre ((x.1 : Int), x.2) ∧ x.1 ∉ pre.map (·.1) := by
  have hm := toldK_mem (h.subset (List.mem_append.2 (.inr (List.mem_singleton.2 rfl))))
  have hn : x.1 ∉ pre.map (·.1) := by
    have := (told_nodup (kf := kfM N R T p) (endsM_nodup N R p)).sublist ((h.map (·.1)).sublist)
    rw [List.map_append, List.nodup_append] at this
    exact fun h => this.2.2 _ h _ (List.mem_singleton.2 rfl) rfl
  have hk := hm.2
  unfold kfM at hk
  by_cases hmm : minus T p x.1 = true
  · rw [if_pos hmm] at hk
    injection hk with hk
    have hl := (endsM_mem.1 hm.1).1
    exact ⟨hl, hk.symm, ⟨x.1, hl, hmm, by rw [if_neg hn, ← hk, Int.sub_zero]⟩, hn⟩
  · rw [if_neg hmm] at hk; cases hk

theorem sm_round {pre : List (Nat × Int)} {x : Nat × Int} (h : pre ++ [x] <+: toldK (kfM N R T p) (endsM N R p)) (y : It) :
    ((SM N R T p pre y ∧ y.1 ≠ (x.1 : Int)) ∨ y = ((x.1 : Int), x.2 - 1)) ↔ SM N R T p (pre ++ [x]) y := by
  obtain ⟨hl, hk, ⟨e0, h0, hm0, he0⟩, hn⟩ := sm_next h
  have hmx : minus T p x.1 = true := by
    have h1 : (x.1 : Int) = (e0 : Int) := congrArg Prod.fst he0
    have h2 : x.1 = e0 := by omega
    rw [h2]; exact hm0
  have hmem : ∀ e, e ∈ (pre ++ [x]).map (·.1) ↔ e ∈ pre.map (·.1) ∨ e = x.1 := fun e => by
    rw [List.map_append, List.mem_append]; simp
  constructor
  · rintro (⟨⟨e, he, hm, rfl⟩, hne⟩ | rfl)
    · have hex : e ≠ x.1 := fun h => hne (by rw [h])
      refine ⟨e, he, hm, ?_⟩
      congr 2
      by_cases hp : e ∈ pre.map (·.1)
      · rw [if_pos hp, if_pos ((hmem e).2 (.inl hp))]
      · rw [if_neg hp, if_neg fun h => ((hmem e).1 h).elim hp hex]
    · exact ⟨x.1, hl, hmx, by rw [if_pos ((hmem _).2 (.inr rfl)), hk]⟩
  · rintro ⟨e, he, hm, rfl⟩
    by_cases hex : e = x.1
    · subst hex
      exact .inr (by rw [if_pos ((hmem _).2 (.inr rfl)), hk])
    · refine .inl ⟨⟨e, he, hm, ?_⟩, fun h => hex (by have h2 : (e : Int) = (x.1 : Int) := h; omega)⟩
      congr 2
      by_cases hp : e ∈ pre.map (·.1)
      · rw [if_pos hp, if_pos ((hmem e).2 (.inl hp))]
      · rw [if_neg hp, if_neg fun h => ((hmem e).1 h).elim hp hex]

/-- What the iterator leans on. -/
theorem sm_holds {q : Nat} {pre : List (Nat × Int)} {W : World} {U : Nat → Prop} {n : Nat} (hN : N ≤ 500) (h : Qs W q U n (SM N R T p pre)) : Holds2 q (kfM N R T p) (endsM N R p) pre W := by
  refine ⟨U, n, _, h, fun e he hne => ⟨by have := (endsM_mem.1 he).1; omega, ?_⟩⟩
  have hl := (endsM_mem.1 he).1
  unfold kfM
  by_cases hm : minus T p e = true
  · rw [if_pos hm]
    exact ⟨e, hl, hm, by rw [if_neg hne, Int.sub_zero]⟩
  · rw [if_neg hm]
    rintro y ⟨e2, h2, hm2, rfl⟩ he2
    have h3 : (e2 : Int) = (e : Int) := he2
    have h4 : e2 = e := by omega
    rw [h4] at hm2
    exact hm hm2

/-- The row of a place in the members' graph. -/
theorem row_ends (g : List (List Int)) (ins : List Bool) {N p : Nat} (hN : g.length = N) (hp : p < N) : ints (rowOf (innG g ins) p) = nats (endsM N (RM g ins) p) := by
  subst hN
  rw [innG, gr_rowOf hp, coeL, ints, List.map_map]
  rfl
theorem row_ends_len (g : List (List Int)) (ins : List Bool) {N p : Nat} (hN : g.length = N) (hp : p < N) : (endsM N (RM g ins) p).length = (rowOf (innG g ins) p).length := by
  subst hN
  rw [innG, gr_rowOf hp, coeL, List.length_map]
  rfl

/-- What the range's rounds keep: the queue holds S; of what was there as the range began only its blocks have turned. -/
def OIn (B : Nat) (W4 : World) (q : Nat) (U : Nat → Prop) (n : Nat) (S : It → Prop) (W : World) : Prop :=
  ∃ U9, Qs W q U9 n S ∧ (∀ b, U9 b → B ≤ b ∧ (b < W4.heap.size → U b) ∧ ¬ Rf.Two W4.heap.size b) ∧ Tn U9 W4 W

theorem OIn.keep {B : Nat} {W4 X Y : World} {q n : Nat} {U : Nat → Prop} {S : It → Prop} (h : OIn B W4 q U n S X) (hq : ¬ Rf.Two W4.heap.size q) (hk : Keeps (fun k => ¬ Rf.Two W4.heap.size k) X Y) : OIn B W4 q U n S Y := by
  obtain ⟨U9, hQ, hU, hT⟩ := h
  refine ⟨U9, hQ.kept (V := Rf.Two W4.heap.size) ⟨hk.os, hk.tape, hk.output, hk.size, fun b hb hn => hk.block b hn hb⟩ (fun b hb => (hU b hb).2.2) hq, hU,
    ⟨hk.os.trans hT.os, hk.tape.trans hT.tape, hk.output.trans hT.output, Nat.le_trans hT.size hk.size, fun b hb hu => (hk.block b (fun h2 => by unfold Rf.Two at h2; omega) (Nat.lt_of_lt_of_le hb hT.size)).trans (hT.block b hb hu)⟩⟩

theorem OIn.round {B b1 b2 : Nat} {W4 X Y Z : World} {q n : Nat} {U U9 : Nat → Prop} {S' : It → Prop} (hB : B ≤ W4.heap.size) (hU : ∀ b, U9 b → B ≤ b ∧ (b < W4.heap.size → U b) ∧ ¬ Rf.Two W4.heap.size b) (hT : Tn U9 W4 X) (hX : W4.heap.size + 2 ≤ X.heap.size)
    (h5 : Tn U9 X Y) (h6 : Qs Z q (Qu.Gr U9 Y Z) n S') (ht6 : Tn U9 Y Z) (hb1 : b1 < W4.heap.size ∧ ¬ U b1) (hb2 : b2 < W4.heap.size ∧ ¬ U b2) :
    Keeps (fun k => (k < B ∨ k = b1 ∨ k = b2) ∨ Rf.Two W4.heap.size k) X Z ∧ OIn B W4 q U n S' Z := by
  have ht := h5.andThen ht6
  refine ⟨⟨ht.os, ht.tape, ht.output, ht.size, fun k hk hlt => ht.block k hlt fun hu => ?_⟩, Qu.Gr U9 Y Z, h6, fun b hb => ?_, (hT.andThen ht).more fun x hx => .inl hx⟩
  · obtain ⟨h1, h2, h3⟩ := hU k hu
    rcases hk with (h | rfl | rfl) | h
    · omega
    · exact hb1.2 (h2 hb1.1)
    · exact hb2.2 (h2 hb2.1)
    · exact h3 h
  · rcases hb with hb | ⟨hb, _⟩
    · exact hU b hb
    · have := h5.size
      exact ⟨by omega, fun h => by omega, fun h => by unfold Rf.Two at h; omega⟩
end Go.Proofs.Ytlfgnoicjogfpaa.By
