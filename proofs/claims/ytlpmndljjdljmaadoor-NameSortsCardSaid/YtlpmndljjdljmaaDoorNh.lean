/-
  WALK: slices.DeleteFunc with the closure of name.Sort, of a row of the call's own: the names stay, in their order.
-/
import Derived.Test.YtlpmndljjdljmaaDoorNg
import Derived.Lib.SliceRun
import Derived.WalkSpells
namespace Go.Proofs.YtlpmndljjdljmaaDoor.By
open Go.RowKit
open Mem Nam

theorem own_kept {B : Nat} {e : TypeId} {k : Nat} {v : Value} {n : Nat} {xs : List Value} {w w' : World} (h : w.ownsRow B e k v n xs) (hb : Below w.heap.size w w') : w'.ownsRow B e k v n xs := by
  refine ⟨h.1, ?_⟩
  rcases h.2 with hn | ⟨g, cap, cur, hv, hg, hh, r⟩
  · exact .inl hn
  · exact .inr ⟨g, cap, cur, hv, hg, (hb.block g (Array.getElem?_eq_some_iff.1 hh).1).trans hh, r⟩

theorem own_shape {B : Nat} {e : TypeId} {v : Value} {n : Nat} {xs : List Value} {w : World} (h : w.ownsRow B e 1 v n xs) (hn : 0 < n) : ∃ g cap, v = .slice (some ⟨g, 0, none⟩) n cap ∧ n ≤ cap ∧ cap ≤ maxLen ∧ B ≤ g ∧ g < w.heap.size := by
  rcases h.2 with ⟨_, h0⟩ | ⟨g, cap, cur, hv, hg, hh, hc, hm, _⟩
  · omega
  · exact ⟨g, cap, hv, hc, hm, hg, (Array.getElem?_eq_some_iff.1 hh).1⟩

theorem own_cut {B : Nat} {e : TypeId} {g cap n i : Nat} {xs : List Value} {w : World} (h : w.ownsRow B e 1 (.slice (some ⟨g, 0, none⟩) n cap) n xs) (hi : i ≤ n) : w.ownsRow B e 1 (.slice (some ⟨g, 0, none⟩) i cap) i (xs.take i) := by
  have hl := h.1
  rcases h.2 with ⟨e, _⟩ | ⟨g', cap', cur, hv, hg, hh, hc, hm, hs, ht⟩
  · cases e
  · injection hv with e1 e2 e3
    injection e1 with e1
    injection e1 with e1
    subst e1 e3
    refine ⟨by rw [List.length_take]; omega, .inr ⟨g, cap, cur, rfl, hg, hh, by omega, hm, hs, ?_⟩⟩
    rw [← ht, List.take_take]
    congr 1
    omega

theorem own_setCells {B : Nat} {e : TypeId} {g cap n : Nat} : ∀ (vs : List Value) (o : Nat) (w : World) (xs : List Value), w.ownsRow B e 1 (.slice (some ⟨g, 0, none⟩) n cap) n xs →
    ∃ ys, (w.setCells g o vs).ownsRow B e 1 (.slice (some ⟨g, 0, none⟩) n cap) n ys ∧ w.grownBy (w.setCells g o vs) (some g) ∧ ∀ m, m ≤ o → ys.take m = xs.take m
  | [], o, w, xs, h => ⟨xs, h, only_refl _ _, fun _ _ => rfl⟩
  | v :: r, o, w, xs, h => by
    have h1 := h.stored o v
    obtain ⟨ys, hy, hg, ht⟩ := own_setCells r (o + 1) (w.setCell ⟨g, o, none⟩ v) (xs.set o v) h1.1
    refine ⟨ys, hy, only_trans h1.2 hg, fun m hm => ?_⟩
    rw [ht m (by omega), List.take_set_of_le hm]

/-- The names, in their order. -/
def names (l : List (List UInt8)) : List (List UInt8) := l.filter fun x => !odd x

theorem names_snoc (l : List (List UInt8)) (k : Nat) (h : k < l.length) : names (l.take (k + 1)) = if odd l[k] then names (l.take k) else names (l.take k) ++ [l[k]] := by
  unfold names
  rw [List.take_succ_eq_append_getElem h, List.filter_append]
  cases ho : odd l[k] <;> simp [ho]

theorem names_le (l : List (List UInt8)) (k : Nat) : (names (l.take k)).length ≤ k := by
  unfold names
  exact Nat.le_trans (List.length_filter_le _ _) (List.length_take_le _ _)

/-- Where the first text that is no name stands. -/
theorem odd_first (l : List (List UInt8)) : (oddFrom 0 l = -1 ∧ names l = l) ∨ ∃ k : Nat, ∃ h : k < l.length, oddFrom 0 l = k ∧ odd l[k] = true ∧ names (l.take k) = l.take k := by
  have key : ∀ (m : Nat), m ≤ l.length → (∀ x ∈ l.take m, odd x = false) ∨ ∃ k : Nat, ∃ h : k < l.length, k < m ∧ oddFrom 0 l = k ∧ odd l[k] = true ∧ names (l.take k) = l.take k := by
    intro m
    induction m with
    | zero => intro _; exact .inl (by simp)
    | succ m ih =>
      intro hm
      rcases ih (by omega) with h | ⟨k, h, hk, r⟩
      · by_cases ho : odd l[m] = true
        · refine .inr ⟨m, by omega, by omega, ?_, ho, ?_⟩
          · have e : l = l.take m ++ l[m] :: l.drop (m + 1) := by simp
            rw [e, odd_past _ _ 0 h, oddFrom, if_pos ho]
            simp [Nat.min_eq_left (show m ≤ l.length by omega)]
          · unfold names
            rw [List.filter_eq_self]
            intro x hx; rw [h x hx]; rfl
        · refine .inl fun x hx => ?_
          rw [List.take_succ_eq_append_getElem (by omega), List.mem_append] at hx
          rcases hx with hx | hx
          · exact h x hx
          · rw [List.mem_singleton.1 hx]; simpa using ho
      · exact .inr ⟨k, h, by omega, r⟩
  rcases key l.length (Nat.le_refl _) with h | ⟨k, h, _, r⟩
  · rw [List.take_length] at h
    refine .inl ⟨?_, ?_⟩
    · have := odd_past l [] 0 h
      rw [List.append_nil] at this
      exact this
    · unfold names
      rw [List.filter_eq_self]
      intro x hx; rw [h x hx]; rfl
  · exact .inr ⟨k, h, r⟩

/-- What DeleteFunc leaves. -/
def Left (B : Nat) (w : World) (l : List (List UInt8)) (e : Ending) (w' : World) : Prop :=
  ∃ v', e = .returned v' ∧ w'.ownsRow B 9 1 v' (names l).length (strs (names l)) ∧ Below B w w'

theorem delete_same (w : World) (B : Nat) (v : Value) (l : List (List UInt8)) (h : w.ownsRow B 9 1 v l.length (strs l)) (hB : B ≤ w.heap.size) (hl : l.length ≤ 1000000) (ho : oddFrom 0 l = -1) (hn : names l = l) :
    Calls Tryd.prog 22 #[v, .func (.func 24) #[] #[]] w (Left B w l) := by
  have HI := Lib.hid (ifunc_any w w.heap.size v l (SlV.of_own h) (Nat.le_refl _) hl)
  have HW := Lib.hid h
  have HN := Lib.hid hn
  have HO := Lib.hid ho
  obtain ⟨A, c, rfl⟩ := (SlV.of_own h).form
  clear h hn ho
  rw [strs_length] at HI HW ⊢
  unfold Left
  rw [HN.out]
  generalize l.length = n at HI HW ⊢
  go_enter Tryd.func22, Tryd.ntmps22
  go_wp2_with fail
  refine HI.out.mono ?_
  rintro e w1 ⟨⟨i, rfl, hi⟩, hb⟩
  obtain rfl : i = -1 := hi.trans HO.out
  go_wp2_with fail
  go_ret
  exact ⟨_, rfl, own_kept HW.out hb, hb.mono hB⟩

/-- How a row stands in the midst of DeleteFunc: i names are laid, the rest from j on is as it was. -/
structure Half (B g cap n : Nat) (l : List (List UInt8)) (j i : Nat) (xs : List Value) (w w' : World) : Prop where
  own : w'.ownsRow B 9 1 (.slice (some ⟨g, 0, none⟩) n cap) n xs
  took : xs.take i = strs (names (l.take j))
  rest : xs.drop j = strs (l.drop j)
  below : Below B w w'

theorem strs_take (l : List (List UInt8)) (k : Nat) : (strs l).take k = strs (l.take k) := by simp [strs, List.map_take]
theorem strs_drop (l : List (List UInt8)) (k : Nat) : (strs l).drop k = strs (l.drop k) := by simp [strs, List.map_drop]
theorem strs_append (l m : List (List UInt8)) : strs (l ++ m) = strs l ++ strs m := by simp [strs]

theorem half_skip {B g cap n : Nat} {l : List (List UInt8)} {j i : Nat} {xs : List Value} {w w' w2 : World} (h : Half B g cap n l j i xs w w') (hB : B ≤ w'.heap.size) (hj : j < l.length) (ho : odd l[j] = true) (hb : Below w'.heap.size w' w2) : Half B g cap n l (j + 1) i xs w w2 := by
  refine ⟨own_kept h.own hb, ?_, ?_, h.below.trans (hb.mono hB)⟩
  · rw [names_snoc l j hj, if_pos ho]; exact h.took
  · have := h.rest
    rw [show xs.drop (j + 1) = (xs.drop j).drop 1 by rw [List.drop_drop], this, strs_drop, List.drop_drop]

theorem half_lay {B g cap n : Nat} {l : List (List UInt8)} {j i : Nat} {xs : List Value} {w w' w2 : World} (h : Half B g cap n l j i xs w w') (hBg : B ≤ g) (hB : B ≤ w'.heap.size) (hl : l.length = n) (hj : j < l.length) (hi : i < j) (ho : odd l[j] = false) (hb : Below w'.heap.size w' w2) :
    Half B g cap n l (j + 1) (i + 1) (xs.set i (.string ⟨l[j].toArray⟩)) w (w2.setCell ⟨g, i, none⟩ (.string ⟨l[j].toArray⟩)) := by
  have h2 := own_kept h.own hb
  have hlen : xs.length = n := by have := h.own.1; omega
  refine ⟨(h2.stored i _).1, ?_, ?_, (h.below.trans (hb.mono hB)).setCell (p := ⟨g, i, none⟩) hBg _⟩
  · rw [names_snoc l j hj, if_neg (by rw [ho]; decide), strs_append, ← h.took]
    rw [List.take_succ_eq_append_getElem (by rw [List.length_set]; omega), List.take_set_of_le (Nat.le_refl _)]
    simp [strs]
  · rw [List.drop_set_of_lt (by omega), show xs.drop (j + 1) = (xs.drop j).drop 1 by rw [List.drop_drop], h.rest, strs_drop, List.drop_drop]

set_option maxHeartbeats 2000000 in
theorem delete_loop (w : World) (B g cap : Nat) (l : List (List UInt8)) (n : Nat) (hn : l.length = n) (h : w.ownsRow B 9 1 (.slice (some ⟨g, 0, none⟩) n cap) n (strs l)) (hB : B ≤ w.heap.size) (hl : n ≤ 1000000) (hc : n ≤ cap) (hm : cap ≤ maxLen) (hg : B ≤ g)
    (k : Nat) (hk : k < l.length) (ho : oddFrom 0 l = k) (hod : odd l[k] = true) (hnk : names (l.take k) = l.take k) :
    Calls Tryd.prog 22 #[.slice (some ⟨g, 0, none⟩) n cap, .func (.func 24) #[] #[]] w (Left B w l) := by
  have hi := ifunc_any w w.heap.size _ l (SlV.of_own h) (Nat.le_refl _) (by omega)
  have HI := Lib.hid hi
  have HW := Lib.hid h
  have HO := Lib.hid ho
  have HN := Lib.hid hn
  have HS := Lib.hid (show ∀ W, Below w.heap.size w W → Half B g cap n l (k + 1) k (strs l) w W from fun W hb => by
    refine ⟨own_kept h hb, ?_, strs_drop _ _, hb.mono hB⟩
    rw [names_snoc l k hk, if_pos hod, hnk, strs_take])
  have HNK := Lib.hid (show (names (l.take (k + 1))).length = k by rw [names_snoc l k hk, if_pos hod, hnk, List.length_take]; omega)
  unfold maxLen at hm
  have hkn : k < n := by omega
  clear hi h ho hn hod hnk
  go_enter Tryd.func22, Tryd.ntmps22
  go_wp2_with fail
  refine HI.out.mono ?_
  rintro e w1 ⟨⟨i, rfl, hi⟩, hb⟩
  obtain rfl : i = (k : Int) := hi.trans HO.out
  have HH := Lib.hid (HS.out w1 hb)
  have hne : ((k : Int) == -1) = false := by simp
  clear hb hi hk
  go_wp2_with fail
  go_loopw [5, 6] (fun vi vj wr => ∃ (j i : Nat) (xs : List Value), j ≤ n ∧ i < j ∧ vi = .int .i64 i ∧ vj = .int .i64 j ∧ Hid (i = (names (l.take j)).length) ∧ Hid (Half B g cap n l j i xs w wr)) (fun _ vj _ => n - (intOf vj).toNat)
  case atStart => exact ⟨k + 1, k, strs l, by omega, by omega, rfl, by go_num, Lib.hid HNK.out.symm, HH⟩
  case round =>
    obtain ⟨j, i, xs, hj, hij, rfl, rfl, HIL, HF⟩ := hrel
    by_cases hlt : j < n
    · have hjl : j < l.length := by rw [HN.out]; exact hlt
      have hxs : xs[j]? = some (.string ⟨l[j].toArray⟩) := by
        have h1 : (xs.drop j)[0]? = (strs (l.drop j))[0]? := by rw [HF.out.rest]
        rw [List.getElem?_drop, Nat.add_zero] at h1
        rw [h1]
        simp [strs, hjl]
      have hx : wr.cell? ⟨g, j, none⟩ = some (.string ⟨l[j].toArray⟩) := by rw [HF.out.own.cellAt j (by omega), hxs]
      have hBw := Nat.le_trans hB HF.out.below.size
      obtain ⟨t, ht⟩ : ∃ t : ByteArray, (⟨l[j].toArray⟩ : ByteArray) = t := ⟨_, rfl⟩
      have HP := Lib.hid (odd_any l[j] wr t ht)
      have HA := Lib.hid (show odd l[j] = true → ∀ w2, Below wr.heap.size wr w2 → i = (names (l.take (j + 1))).length ∧ Half B g cap n l (j + 1) i xs w w2 from fun h w2 hb => ⟨by rw [names_snoc l j hjl, if_pos h]; exact HIL.out, half_skip HF.out hBw hjl h hb⟩)
      have HL := Lib.hid (show odd l[j] = false → ∀ w2, Below wr.heap.size wr w2 → i + 1 = (names (l.take (j + 1))).length ∧ Half B g cap n l (j + 1) (i + 1) (xs.set i (.string t)) w (w2.setCell ⟨g, i, none⟩ (.string t)) ∧ (w2.cell? ⟨g, i, none⟩).isSome = true ∧ w2.frozen? ⟨g, i, none⟩ = false from fun h w2 hb => by
        have ho := own_kept HF.out.own hb
        have hlen : xs.length = n := by have := HF.out.own.1; omega
        refine ⟨by rw [names_snoc l j hjl, if_neg (by rw [h]; decide), List.length_append]; have := HIL.out; simp; omega, by rw [← ht]; exact half_lay HF.out hg hBw HN.out hjl hij h hb, ?_, ho.frozenAt i⟩
        rw [ho.cellAt i (by omega), List.getElem?_eq_getElem (by omega)]; rfl)
      rw [ht] at hx
      generalize odd l[j] = b at HP HA HL
      clear hxs ht hjl HF HIL
      cases b
      · go_wp2_with fail
        refine HP.out.mono ?_
        rintro e w2 ⟨rfl, hb2⟩
        obtain ⟨h1, h2, h3, hf⟩ := HL.out (by first | rfl | trivial) w2 hb2
        obtain ⟨u, hu⟩ := Option.isSome_iff_exists.1 h3
        have H1 := Lib.hid h1
        have H2 := Lib.hid h2
        clear h1 h2 h3 hb2
        go_wp2_with fail
        go_roundw
        case rel => exact ⟨j + 1, i + 1, _, by omega, by omega, by go_num, by go_num, H1, H2⟩
        case measure => simp [intOf]; omega
      · go_wp2_with fail
        refine HP.out.mono ?_
        rintro e w2 ⟨rfl, hb2⟩
        obtain ⟨h1, h2⟩ := HA.out (by first | rfl | trivial) w2 hb2
        have H1 := Lib.hid h1
        have H2 := Lib.hid h2
        clear h1 h2 hb2
        go_wp2_with fail
        go_roundw
        case rel => exact ⟨j + 1, i, _, by omega, by omega, rfl, by go_num, H1, H2⟩
        case measure => simp [intOf]; omega
    · obtain rfl : j = n := by omega
      have hcl : ∀ ty, (Builtin.clear_ #[22] ty #[.slice (some ⟨g, i, none⟩) (j - i) (cap - i)]).run Tryd.prog wr = .ok (.tuple #[]) (wr.setCells g i (List.replicate (j - i) (.string ⟨#[]⟩))) := fun ty =>
        Lib.run_clear_slice wr 22 9 ty _ Tryd.underlying22 Tryd.zeroValue9 rfl rfl g i (j - i) (cap - i) (by omega)
          (fun t ht => by rw [HF.out.own.cellAt (i + t) (by omega), List.getElem?_eq_getElem (by have := HF.out.own.1; omega)]; rfl) (fun t _ => HF.out.own.frozenAt (i + t))
      obtain ⟨ys, hy, hgr, hty⟩ := own_setCells (List.replicate (j - i) (Value.string ⟨#[]⟩)) i wr xs HF.out.own
      have hfin : (wr.setCells g i (List.replicate (j - i) (.string ⟨#[]⟩))).ownsRow B 9 1 (.slice (some ⟨g, 0, none⟩) i cap) (names l).length (strs (names l)) ∧ Below B w (wr.setCells g i (List.replicate (j - i) (.string ⟨#[]⟩))) := by
        have h1 := own_cut hy (show i ≤ j by omega)
        have hl2 : l.take j = l := List.take_of_length_le (by rw [HN.out]; omega)
        have h2 := HF.out.took
        rw [hl2] at h2
        have h3 := HIL.out
        rw [hl2] at h3
        rw [hty i (Nat.le_refl _), h2] at h1
        rw [← h3]
        exact ⟨h1, HF.out.below.grown hgr (Nat.le_trans hB HF.out.below.size) (fun q hq => by injection hq with hq; omega)⟩
      have HFIN := Lib.hid hfin
      have hic : ¬ i = cap := by omega
      clear hfin hy hgr hty HF HIL
      go_wp2
      go_ret
      exact ⟨_, rfl, HFIN.out.1, HFIN.out.2⟩

theorem delete_any (w : World) (B : Nat) (v : Value) (l : List (List UInt8)) (h : w.ownsRow B 9 1 v l.length (strs l)) (hB : B ≤ w.heap.size) (hl : l.length ≤ 1000000) :
    Calls Tryd.prog 22 #[v, .func (.func 24) #[] #[]] w (Left B w l) := by
  rcases odd_first l with ⟨ho, hn⟩ | ⟨k, hk, ho, hod, hnk⟩
  · exact delete_same w B v l h hB hl ho hn
  · obtain ⟨g, cap, rfl, hc, hm, hg, _⟩ := own_shape h (by omega)
    exact delete_loop w B g cap l l.length rfl h hB hl hc hm hg k hk ho hod hnk
end Go.Proofs.YtlpmndljjdljmaaDoor.By
