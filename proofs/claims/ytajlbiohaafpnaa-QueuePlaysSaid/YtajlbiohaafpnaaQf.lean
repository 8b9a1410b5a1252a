/-
  WALKS of layer 6: the document's own lists: Drop.
-/
import Derived.Test.YtajlbiohaafpnaaQl
namespace Go.Proofs.Ytajlbiohaafpnaa.Qu
open Go.RowKit Go.Maps
open Mem Hp

def flatL (l : List It) : List Value := l.flatMap fun x => [.int .i64 x.1, .int .i64 x.2]
theorem flatL_snoc (l : List It) (x : It) : flatL l ++ [.int .i64 x.1, .int .i64 x.2] = flatL (l ++ [x]) := by simp [flatL]
theorem flatL_get : ∀ (l : List It) (i : Nat) (x : It), l[i]? = some x → (flatL l)[i * 2]? = some (.int .i64 x.1) ∧ (flatL l)[i * 2 + 1]? = some (.int .i64 x.2)
  | [], i, x, h => by simp at h
  | y :: l, 0, x, h => by
    simp at h
    subst h
    exact ⟨rfl, rfl⟩
  | y :: l, i + 1, x, h => by
    have h' : l[i]? = some x := by simpa using h
    obtain ⟨h1, h2⟩ := flatL_get l i x h'
    rw [show (i + 1) * 2 = i * 2 + 2 by omega]
    exact ⟨h1, h2⟩

/-- A row of items that the call made. -/
def Mine (B : Nat) (w w' : World) (v : Value) (l : List It) : Prop := w'.ownsRow B 33 2 v l.length (flatL l) ∧ Below B w w' ∧ B ≤ w'.heap.size

theorem Mine.lst {B : Nat} {w w' : World} {v : Value} {l : List It} (h : Mine B w w' v l) : Lst w' (fun g => B ≤ g) v l := by
  by_cases h0 : 0 < l.length
  · obtain ⟨g, c, rfl, hb, _⟩ := h.1.form h0
    have hcap : l.length ≤ c ∧ c ≤ maxLen := by
      rcases h.1.2 with ⟨hh, _⟩ | ⟨g', cap', cur, hh, _, _, hnc, hcm, _⟩
      · cases hh
      · simp only [Value.slice.injEq, Option.some.injEq, Addr.mk.injEq, and_true, true_and] at hh
        obtain ⟨rfl, rfl⟩ := hh
        exact ⟨hnc, hcm⟩
    refine .at_ g 0 c l hb h0 hcap.1 hcap.2 fun i x hx => ?_
    have hil : i < l.length := (List.getElem?_eq_some_iff.1 hx).1
    obtain ⟨h1, h2⟩ := flatL_get l i x hx
    rw [Nat.zero_add, h.1.cellAt _ (by omega), h.1.cellAt _ (by omega)]
    exact ⟨h1, h2⟩
  · obtain rfl : l = [] := List.eq_nil_of_length_eq_zero (by omega)
    rcases h.1.2 with ⟨rfl, _⟩ | ⟨g', cap', cur, rfl, _, _, hnc, hcm, _⟩
    · exact .empty none 0 (by unfold maxLen; omega)
    · exact .empty _ _ hcm

theorem Mine.form {B : Nat} {w w' : World} {v : Value} {l : List It} (h : Mine B w w' v l) : ∃ A c, v = .slice A l.length c := by
  obtain ⟨A, c, e, _⟩ := h.lst.form
  exact ⟨A, c, e⟩

theorem mine_start (w : World) : Mine w.heap.size w w (.slice none 0 0) [] := ⟨World.ownsRow_nil _ _ _ _, Below.refl _ _, Nat.le_refl _⟩

/-- Behind an append. -/
theorem Mine.app {B : Nat} {w w1 w2 : World} {v v' : Value} {l : List It} {x : It} (h : Mine B w w1 v l) (o : Obj) (hgrow : (w1.alloc o).grownBy w2 v.ownBlock) (hown : w2.ownsRow B 33 2 v' (l.length + 1) (flatL l ++ [.int .i64 x.1, .int .i64 x.2])) : Mine B w w2 v' (l ++ [x]) := by
  have hs : B ≤ (w1.alloc o).heap.size := by have := h.2.2; simp; omega
  refine ⟨by rw [List.length_append]; rw [flatL_snoc] at hown; exact hown, (h.2.1.alloc h.2.2 o).grown hgrow hs (fun k e => (h.1.lt k e).1), Nat.le_trans hs hgrow.size⟩

theorem infoItem : (Try.prog.info? 33).map (fun i => (i.zero, i.size, i.bytes)) = some (some (.agg #[.int .i64 0, .int .i64 0]), 2, 16) := by kernel_rfl

/-- What is left when those with an id are struck. -/
def strike (a : Int) (l : List It) : List It := l.filter fun x => decide (x.1 ≠ a)
theorem strike_yes (a : Int) (l : List It) (x : It) (h : x.1 ≠ a) : strike a (l ++ [x]) = strike a l ++ [x] := by
  unfold strike; rw [List.filter_append]; simp [h]
theorem strike_no (a : Int) (l : List It) (x : It) (h : x.1 = a) : strike a (l ++ [x]) = strike a l := by
  unfold strike; rw [List.filter_append]; simp [h]
theorem strike_le (a : Int) (l : List It) : (strike a l).length ≤ l.length := List.length_filter_le _ _

def StrikePost (w : World) (l : List It) (a : Int) (e : Ending) (w' : World) : Prop :=
  ∃ v, e = .returned (.tuple #[v, .bool (decide ((strike a l).length < l.length))]) ∧ Mine w.heap.size w w' v (strike a l)

set_option maxHeartbeats 2000000 in
theorem rdrop_any (w : World) (F : Nat → Prop) (v : Value) (l : List It) (h : Lst w F v l) (hl : l.length ≤ 1000) (a : Int) :
    Calls Try.prog 15 #[v, .int .i64 a] w (StrikePost w l a) := by
  obtain ⟨A, c, rfl, hm, hc⟩ := h.form
  have HH := Lib.hid h
  obtain ⟨n, hn⟩ : ∃ n, l.length = n := ⟨_, rfl⟩
  have HL := Lib.hid hn
  have HE : Hid (StrikePost w l a = fun e w' => ∃ v, e = .returned (.tuple #[v, .bool (decide ((strike a l).length < n))]) ∧ Mine w.heap.size w w' v (strike a l)) := Lib.hid (by rw [← hn]; rfl)
  rw [HE.out]
  rw [hn] at hl ⊢
  obtain ⟨i0, hi0, hz0, hz1, hz2⟩ := info_parts infoItem
  have HI0 := Lib.hid hi0
  have HZ0 := Lib.hid hz0
  have HZ1 := Lib.hid hz1
  have HZ2 := Lib.hid hz2
  clear h hn hm hc hi0 hz0 hz1 hz2 HE
  go_enter Try.func15, Try.ntmps15
  go_wp2_with fail
  go_loopw [6, 7] (fun a6 a7 wr => ∃ (i : Nat) (out : Value), a6 = out ∧ i ≤ n ∧ a7 = .int .i64 i ∧ Hid (Mine w.heap.size w wr out (strike a (l.take i)))) (fun _ u _ => n - (intOf u).toNat)
  case atStart => exact ⟨0, _, rfl, by omega, rfl, Lib.hid (by rw [List.take_zero]; exact mine_start w)⟩
  case round =>
    obtain ⟨i, out, e6, hin, rfl, HM⟩ := hrel
    have e6' := e6.symm
    clear e6
    subst e6'
    by_cases hlt : i < n
    · have hil : i < l.length := by rw [HL.out]; exact hlt
      obtain ⟨g, off, c', e, _, hc, hm, hi⟩ := (HH.out.below ((HM.out.2.1))).there (by omega)
      simp only [Value.slice.injEq] at e
      obtain ⟨rfl, _, rfl⟩ := e
      obtain ⟨c0, c1⟩ := hi i _ (List.getElem?_eq_getElem hil)
      have HT := Lib.hid (List.take_succ_eq_append_getElem hil)
      have HX : Hid ((strike a (l.take i)).length ≤ 1000) := Lib.hid (Nat.le_trans (strike_le a _) (by rw [List.length_take]; omega))
      generalize l[i] = y at c0 c1 HT
      clear hil hi hc hm
      by_cases hy : y.1 = a
      · have hb : (y.1 == a) = true := by simpa using hy
        have hb2 : (y.1 != a) = false := by simpa using hy
        have HM2 : Hid (Mine w.heap.size w wr out (strike a (l.take (i + 1)))) := Lib.hid (by rw [HT.out, strike_no a _ y hy]; exact HM.out)
        clear hy HX
        go_wp2_with fail
        go_roundw
        case rel => exact ⟨i + 1, _, rfl, by omega, by go_num, HM2⟩
        case measure => simp [intOf]; omega
      · have hb : (y.1 == a) = false := by simpa using hy
        have hb2 : (y.1 != a) = true := by simpa using hy
        have HS := Lib.hid (strike_yes a (l.take i) y hy)
        clear hy
        have hx1 := HX.out
        generalize hK : strike a (l.take i) = L at HM HS hx1
        clear hK HX
        go_wp2_with (at_builtin; go_must (refine wpList_append_lies _ (by rfl) _ _ 26 (by rfl) w.heap.size 33 i0 (.agg #[.int .i64 0, .int .i64 0]) 2 16 Try.underlying26 HI0.out HZ0.out HZ1.out HZ2.out (by rfl) (by omega) out L.length (flatL L) (by rfl) (HM.out.1.alloc _) ⟨wr.heap.size, 0, none⟩ 1 1 [.int .i64 y.1, .int .i64 y.2] (by rfl) (by rfl) (by exact World.news_of_block (heap_alloc_new _ _)) (by simp [Value.oneCell']) (by omega) (by unfold maxLen; omega) (by omega) (by have := HM.out.2.2; simp; omega) (wr.heap.size + 1) (by simp) ?_); intro g8 c8 w2 hown8 hgrow8 hat8 hlt8; have HM2 : Hid (Mine w.heap.size w w2 (.slice (some ⟨g8, 0, none⟩) (L.length + 1) c8) (L ++ [y])) := Lib.hid (HM.out.app _ hgrow8 hown8); clear hown8 hgrow8 hat8 hlt8)
        go_roundw
        case rel => exact ⟨i + 1, _, rfl, by omega, by go_num, Lib.hid (by rw [HT.out, HS.out]; exact HM2.out)⟩
        case measure => simp [intOf]; omega
    · obtain rfl : i = n := by omega
      have HM2 : Hid (Mine w.heap.size w wr out (strike a l)) := Lib.hid (by
        have := HM.out
        rwa [List.take_of_length_le (by rw [HL.out]; exact Nat.le_refl _)] at this)
      clear HM
      obtain ⟨A', c', rfl⟩ := HM2.out.form
      have hx := strike_le a l
      rw [HL.out] at hx
      generalize hL2 : strike a l = L at HM2 hx
      have HL2 := Lib.hid hL2
      clear hL2
      go_wp2_with fail
      go_ret2
      exact ⟨_, by rw [HL2.out]; rfl, by rw [HL2.out]; exact HM2.out⟩
end Go.Proofs.Ytajlbiohaafpnaa.Qu
