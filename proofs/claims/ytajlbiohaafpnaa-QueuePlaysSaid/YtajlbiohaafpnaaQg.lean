/-
  WALKS of layer 6: the document's own lists: Put.
-/
import Derived.Test.YtajlbiohaafpnaaQf
namespace Go.Proofs.Ytajlbiohaafpnaa.Qu
open Go.RowKit Go.Maps
open Mem Hp

/-- An item more, at its place. -/
def insL (x : It) : List It → List It
  | [] => [x]
  | y :: r => if fore x y then x :: y :: r else y :: insL x r

theorem insL_none (x : It) : ∀ (p q : List It), p.any (fore x) = false → insL x (p ++ q) = p ++ insL x q
  | [], q, _ => rfl
  | y :: p, q, h => by
    simp only [List.any_cons, Bool.or_eq_false_iff] at h
    show (if fore x y then _ else y :: insL x (p ++ q)) = _
    rw [h.1, insL_none x p q h.2]
    rfl
theorem insL_some (x : It) : ∀ (p q : List It), p.any (fore x) = true → insL x (p ++ q) = insL x p ++ q
  | [], q, h => by simp at h
  | y :: p, q, h => by
    show (if fore x y then x :: y :: (p ++ q) else y :: insL x (p ++ q)) = (if fore x y then x :: y :: p else y :: insL x p) ++ q
    cases hf : fore x y with
    | true => rfl
    | false =>
      rw [List.any_cons, hf, Bool.false_or] at h
      rw [insL_some x p q h]
      rfl
theorem insL_len (x : It) : ∀ l : List It, (insL x l).length = l.length + 1
  | [] => rfl
  | y :: l => by
    show (if fore x y then x :: y :: l else y :: insL x l).length = _
    split
    · rfl
    · simp [insL_len x l]
theorem insL_mem (x y : It) : ∀ l : List It, y ∈ insL x l ↔ y = x ∨ y ∈ l
  | [] => by simp [insL]
  | z :: l => by
    show y ∈ (if fore x z then x :: z :: l else z :: insL x l) ↔ _
    split
    · simp
    · simp only [List.mem_cons, insL_mem x y l]
      constructor
      · rintro (h | h | h)
        · exact .inr (.inl h)
        · exact .inl h
        · exact .inr (.inr h)
      · rintro (h | h | h)
        · exact .inr (.inl h)
        · exact .inl h
        · exact .inr (.inr h)

/-- What is made already of the first ones. -/
def out (x : It) (p : List It) : List It := if p.any (fore x) then insL x p else p
theorem out_keep (x : It) (p : List It) (y : It) (h : p.any (fore x) = true) : out x (p ++ [y]) = out x p ++ [y] := by
  unfold out
  rw [List.any_append, h, Bool.true_or, if_pos rfl, if_pos rfl, insL_some x p [y] h]
theorem out_put (x : It) (p : List It) (y : It) (h : p.any (fore x) = false) (hf : fore x y = true) : out x (p ++ [y]) = out x p ++ [x] ++ [y] := by
  unfold out
  rw [List.any_append, h, Bool.false_or, show [y].any (fore x) = true by simp [hf], if_pos rfl, if_neg (by decide), insL_none x p [y] h]
  show p ++ (if fore x y then [x, y] else _) = _
  rw [hf]
  simp
theorem out_wait (x : It) (p : List It) (y : It) (h : p.any (fore x) = false) (hf : fore x y = false) : out x (p ++ [y]) = out x p ++ [y] := by
  unfold out
  rw [List.any_append, h, Bool.false_or, show [y].any (fore x) = false by simp [hf], if_neg (by decide), if_neg (by decide)]
theorem out_end (x : It) (p : List It) : insL x p = if p.any (fore x) then out x p else out x p ++ [x] := by
  unfold out
  cases h : p.any (fore x) with
  | true => rfl
  | false =>
    have := insL_none x p [] h
    rw [List.append_nil] at this
    rw [this]
    rfl
theorem out_len (x : It) (p : List It) : (out x p).length ≤ p.length + 1 := by
  unfold out
  split
  · rw [insL_len]; exact Nat.le_refl _
  · omega
theorem any_snoc (x : It) (p : List It) (y : It) : (p ++ [y]).any (fore x) = (p.any (fore x) || fore x y) := by simp

theorem rput_no (w : World) (F : Nat → Prop) (v : Value) (l : List It) (h : Lst w F v l) (hl : l.length ≤ 1000) (k : Nat) (hk : k < l.length) (a b : Int) (ha : l[k].1 = a) (hno : ∀ j (hj : j < l.length), j < k → l[j].1 ≠ a) :
    Calls Try.prog 12 #[v, .int .i64 a, .int .i64 b] w fun e w' => e = .returned (.tuple #[v, .bool false]) ∧ w = w' := by
  have HA := Lib.hid (at_yes w F v l h hl k hk a ha hno)
  obtain ⟨A, c, rfl, hm, hc⟩ := h.form
  have h0 : (0 : Int) ≤ (k : Int) := by omega
  clear h hno ha
  go_enter Try.func12, Try.ntmps12
  go_wp2_with fail
  refine HA.out.mono ?_
  rintro e w' ⟨rfl, rfl⟩
  go_wp2_with fail
  go_ret2
  exact ⟨rfl, rfl⟩

def InsPost (w : World) (l : List It) (x : It) (e : Ending) (w' : World) : Prop :=
  ∃ v, e = .returned (.tuple #[v, .bool true]) ∧ Mine w.heap.size w w' v (insL x l)

set_option maxHeartbeats 4000000 in
theorem rput_yes (w : World) (F : Nat → Prop) (v : Value) (l : List It) (h : Lst w F v l) (hl : l.length ≤ 900) (x : It) (hno : ∀ j (hj : j < l.length), l[j].1 ≠ x.1) :
    Calls Try.prog 12 #[v, .int .i64 x.1, .int .i64 x.2] w (InsPost w l x) := by
  have HA := Lib.hid (at_no w F v l h (by omega) x.1 hno)
  obtain ⟨A, c, rfl, hm, hc⟩ := h.form
  have HH := Lib.hid h
  obtain ⟨n, hn⟩ : ∃ n, l.length = n := ⟨_, rfl⟩
  have HL := Lib.hid hn
  rw [hn] at hl HA ⊢
  obtain ⟨i0, hi0, hz0, hz1, hz2⟩ := info_parts infoItem
  have HI0 := Lib.hid hi0
  have HZ0 := Lib.hid hz0
  have HZ1 := Lib.hid hz1
  have HZ2 := Lib.hid hz2
  clear h hn hm hc hi0 hz0 hz1 hz2 hno
  go_enter Try.func12, Try.ntmps12
  go_wp2_with fail
  refine HA.out.mono ?_
  rintro e w' ⟨rfl, rfl⟩
  go_wp2_with fail
  clear HA
  go_loopw [8, 9, 10] (fun a8 a9 a10 wr => ∃ (i : Nat) (o : Value) (b : Bool), a8 = o ∧ a9 = .bool b ∧ i ≤ n ∧ a10 = .int .i64 i ∧ Hid (b = (l.take i).any (fore x)) ∧ Hid (Mine w.heap.size w wr o (out x (l.take i)))) (fun _ _ u _ => n - (intOf u).toNat)
  case atStart => exact ⟨0, _, false, rfl, rfl, by omega, rfl, Lib.hid (by rw [List.take_zero]; rfl), Lib.hid (by rw [List.take_zero]; exact mine_start w)⟩
  case round =>
    obtain ⟨i, o, b, e8, rfl, hin, rfl, HB, HM⟩ := hrel
    have e8' := e8.symm
    clear e8
    subst e8'
    by_cases hlt : i < n
    · have hil : i < l.length := by rw [HL.out]; exact hlt
      obtain ⟨g, off, c', e, _, hc, hm, hi⟩ := HH.out.there (by omega)
      simp only [Value.slice.injEq] at e
      obtain ⟨rfl, _, rfl⟩ := e
      obtain ⟨b0, b1⟩ := hi i _ (List.getElem?_eq_getElem hil)
      have HC := Lib.hid (And.intro b0 b1)
      have HG : Hid (g < w.heap.size) := Lib.hid (World.block_lt_of_cell? w _ b0)
      have c0 : wr.cell? ⟨g, off + i * 2, none⟩ = some (.int .i64 l[i].1) := (HM.out.2.1.cell (p := ⟨g, off + i * 2, none⟩) HG.out).trans b0
      have c1 : wr.cell? ⟨g, off + i * 2 + 1, none⟩ = some (.int .i64 l[i].2) := (HM.out.2.1.cell (p := ⟨g, off + i * 2 + 1, none⟩) HG.out).trans b1
      have HT := Lib.hid (List.take_succ_eq_append_getElem hil)
      have HX := Lib.hid (show (out x (l.take i)).length ≤ 950 from Nat.le_trans (out_len x _) (by rw [List.length_take]; omega))
      clear b0 b1
      generalize l[i] = y at c0 c1 HT HC
      clear hil hi hc hm
      have HAS := Lib.hid (any_snoc x (l.take i) y)
      cases b with
      | true =>
        have HO := Lib.hid (out_keep x (l.take i) y HB.out.symm)
        have HB2 : Hid (true = (l.take (i + 1)).any (fore x)) := Lib.hid (by rw [HT.out, HAS.out, ← HB.out]; rfl)
        have hx1 := HX.out
        generalize out x (l.take i) = L at HM HO hx1
        clear HX HAS HB
        have tok1 : True := trivial
        go_wp2_with (at_builtin; have _t := tok1; go_must (refine wpList_append_lies _ (by rfl) _ _ 26 (by rfl) w.heap.size 33 i0 (.agg #[.int .i64 0, .int .i64 0]) 2 16 Try.underlying26 HI0.out HZ0.out HZ1.out HZ2.out (by rfl) (by omega) o _ _ (by rfl) (HM.out.1.alloc _) ⟨wr.heap.size, 0, none⟩ 1 1 [.int .i64 y.1, .int .i64 y.2] (by rfl) (by rfl) (by exact World.news_of_block (heap_alloc_new _ _)) (by simp [Value.oneCell']) (by omega) (by unfold maxLen; omega) (by omega) (by have := HM.out.2.2; simp; omega) (wr.heap.size + 1) (by simp) ?_); intro g8 c8 w2 hown8 hgrow8 hat8 hlt8; have HM2 : Hid (Mine w.heap.size w w2 (.slice (some ⟨g8, 0, none⟩) (L.length + 1) c8) (L ++ [y])) := Lib.hid (HM.out.app _ hgrow8 hown8); clear tok1 _t hown8 hgrow8 hat8 hlt8)
        go_roundw
        case rel => exact ⟨i + 1, _, true, rfl, rfl, by omega, by go_num, HB2, Lib.hid (by rw [HT.out, HO.out]; exact HM2.out)⟩
        case measure => simp [intOf]; omega
      | false =>
        cases hf : fore x y with
        | true =>
          have HO := Lib.hid (out_put x (l.take i) y HB.out.symm hf)
          have HB2 : Hid (true = (l.take (i + 1)).any (fore x)) := Lib.hid (by rw [HT.out, HAS.out, hf, Bool.or_true])
          have hx1 := HX.out
          generalize out x (l.take i) = L at HM HO hx1
          have hcase := (fore_iff x y).1 hf
          clear HX HAS HB hf
          rcases hcase with hA | ⟨hE, hA⟩
          · have t1 : x.2 < y.2 := hA
            clear hA
            have tok1 : True := trivial
            have tok2 : True := trivial
            go_wp2_with (first
              | (at_builtin; have _t := tok1; go_must (refine wpList_append_lies _ (by rfl) _ _ 26 (by rfl) w.heap.size 33 i0 (.agg #[.int .i64 0, .int .i64 0]) 2 16 Try.underlying26 HI0.out HZ0.out HZ1.out HZ2.out (by rfl) (by omega) o _ _ (by rfl) (HM.out.1.alloc _) ⟨wr.heap.size, 0, none⟩ 1 1 [.int .i64 x.1, .int .i64 x.2] (by rfl) (by rfl) (by exact World.news_of_block (heap_alloc_new _ _)) (by simp [Value.oneCell']) (by omega) (by unfold maxLen; omega) (by omega) (by have := HM.out.2.2; simp; omega) (wr.heap.size + 1) (by simp) ?_); intro g8 c8 w2 hown8 hgrow8 hat8 hlt8; have HM2 : Hid (Mine w.heap.size w w2 (.slice (some ⟨g8, 0, none⟩) (L.length + 1) c8) (L ++ [x])) := Lib.hid (HM.out.app _ hgrow8 hown8); have HLL : Hid ((L ++ [x]).length = L.length + 1) := Lib.hid (by simp); have d0 : w2.cell? ⟨g, off + i * 2, none⟩ = some (.int .i64 y.1) := (HM2.out.2.1.cell (p := ⟨g, off + i * 2, none⟩) HG.out).trans HC.out.1; have d1 : w2.cell? ⟨g, off + i * 2 + 1, none⟩ = some (.int .i64 y.2) := (HM2.out.2.1.cell (p := ⟨g, off + i * 2 + 1, none⟩) HG.out).trans HC.out.2; have hcp1 := hx1; clear tok1 _t hown8 hgrow8 hat8 hlt8)
              | (at_builtin; have _t := tok2; go_must (refine wpList_append_lies _ (by rfl) _ _ 26 (by rfl) w.heap.size 33 i0 (.agg #[.int .i64 0, .int .i64 0]) 2 16 Try.underlying26 HI0.out HZ0.out HZ1.out HZ2.out (by rfl) (by omega) (.slice (some ⟨g8, 0, none⟩) (L.length + 1) c8) (L.length + 1) (flatL (L ++ [x])) (by rfl) (by rw [← HLL.out]; rw [← HLL.out] at HM2; exact HM2.out.1.alloc _) ⟨w2.heap.size, 0, none⟩ 1 1 [.int .i64 y.1, .int .i64 y.2] (by rfl) (by rfl) (by exact World.news_of_block (heap_alloc_new _ _)) (by simp [Value.oneCell']) (by omega) (by unfold maxLen; omega) (by omega) (by have := HM2.out.2.2; simp; omega) (w2.heap.size + 1) (by simp) ?_); intro g9 c9 w3 hown9 hgrow9 hat9 hlt9; have HM3 : Hid (Mine w.heap.size w w3 (.slice (some ⟨g9, 0, none⟩) (L.length + 1 + 1) c9) (L ++ [x] ++ [y])) := Lib.hid (HM2.out.app _ hgrow9 (by rw [HLL.out]; exact hown9)); clear tok2 _t hown9 hgrow9 hat9 hlt9))
            go_roundw
            case rel => exact ⟨i + 1, _, true, rfl, rfl, by omega, by go_num, HB2, Lib.hid (by rw [HT.out, HO.out]; exact HM3.out)⟩
            case measure => simp [intOf]; omega
          · have t1 : ¬ x.2 < y.2 := by omega
            have t2 : (x.2 == y.2) = true := by simpa using hE
            have t3 : x.1 < y.1 := hA
            clear hA hE
            have tok1 : True := trivial
            have tok2 : True := trivial
            go_wp2_with (first
              | (at_builtin; have _t := tok1; go_must (refine wpList_append_lies _ (by rfl) _ _ 26 (by rfl) w.heap.size 33 i0 (.agg #[.int .i64 0, .int .i64 0]) 2 16 Try.underlying26 HI0.out HZ0.out HZ1.out HZ2.out (by rfl) (by omega) o _ _ (by rfl) (HM.out.1.alloc _) ⟨wr.heap.size, 0, none⟩ 1 1 [.int .i64 x.1, .int .i64 x.2] (by rfl) (by rfl) (by exact World.news_of_block (heap_alloc_new _ _)) (by simp [Value.oneCell']) (by omega) (by unfold maxLen; omega) (by omega) (by have := HM.out.2.2; simp; omega) (wr.heap.size + 1) (by simp) ?_); intro g8 c8 w2 hown8 hgrow8 hat8 hlt8; have HM2 : Hid (Mine w.heap.size w w2 (.slice (some ⟨g8, 0, none⟩) (L.length + 1) c8) (L ++ [x])) := Lib.hid (HM.out.app _ hgrow8 hown8); have HLL : Hid ((L ++ [x]).length = L.length + 1) := Lib.hid (by simp); have d0 : w2.cell? ⟨g, off + i * 2, none⟩ = some (.int .i64 y.1) := (HM2.out.2.1.cell (p := ⟨g, off + i * 2, none⟩) HG.out).trans HC.out.1; have d1 : w2.cell? ⟨g, off + i * 2 + 1, none⟩ = some (.int .i64 y.2) := (HM2.out.2.1.cell (p := ⟨g, off + i * 2 + 1, none⟩) HG.out).trans HC.out.2; have hcp1 := hx1; clear tok1 _t hown8 hgrow8 hat8 hlt8)
              | (at_builtin; have _t := tok2; go_must (refine wpList_append_lies _ (by rfl) _ _ 26 (by rfl) w.heap.size 33 i0 (.agg #[.int .i64 0, .int .i64 0]) 2 16 Try.underlying26 HI0.out HZ0.out HZ1.out HZ2.out (by rfl) (by omega) (.slice (some ⟨g8, 0, none⟩) (L.length + 1) c8) (L.length + 1) (flatL (L ++ [x])) (by rfl) (by rw [← HLL.out]; rw [← HLL.out] at HM2; exact HM2.out.1.alloc _) ⟨w2.heap.size, 0, none⟩ 1 1 [.int .i64 y.1, .int .i64 y.2] (by rfl) (by rfl) (by exact World.news_of_block (heap_alloc_new _ _)) (by simp [Value.oneCell']) (by omega) (by unfold maxLen; omega) (by omega) (by have := HM2.out.2.2; simp; omega) (w2.heap.size + 1) (by simp) ?_); intro g9 c9 w3 hown9 hgrow9 hat9 hlt9; have HM3 : Hid (Mine w.heap.size w w3 (.slice (some ⟨g9, 0, none⟩) (L.length + 1 + 1) c9) (L ++ [x] ++ [y])) := Lib.hid (HM2.out.app _ hgrow9 (by rw [HLL.out]; exact hown9)); clear tok2 _t hown9 hgrow9 hat9 hlt9))
            go_roundw
            case rel => exact ⟨i + 1, _, true, rfl, rfl, by omega, by go_num, HB2, Lib.hid (by rw [HT.out, HO.out]; exact HM3.out)⟩
            case measure => simp [intOf]; omega
        | false =>
          have HO := Lib.hid (out_wait x (l.take i) y HB.out.symm hf)
          have HB2 : Hid (false = (l.take (i + 1)).any (fore x)) := Lib.hid (by rw [HT.out, HAS.out, hf, ← HB.out]; rfl)
          have hx1 := HX.out
          generalize out x (l.take i) = L at HM HO hx1
          have hle := (le_iff y x).1 hf
          clear HX HAS HB hf
          rcases hle with hA | ⟨hE, hA⟩
          · have t1 : ¬ x.2 < y.2 := by omega
            have t2 : (x.2 == y.2) = false := by simp; omega
            clear hA
            have tok1 : True := trivial
            go_wp2_with (at_builtin; have _t := tok1; go_must (refine wpList_append_lies _ (by rfl) _ _ 26 (by rfl) w.heap.size 33 i0 (.agg #[.int .i64 0, .int .i64 0]) 2 16 Try.underlying26 HI0.out HZ0.out HZ1.out HZ2.out (by rfl) (by omega) o _ _ (by rfl) (HM.out.1.alloc _) ⟨wr.heap.size, 0, none⟩ 1 1 [.int .i64 y.1, .int .i64 y.2] (by rfl) (by rfl) (by exact World.news_of_block (heap_alloc_new _ _)) (by simp [Value.oneCell']) (by omega) (by unfold maxLen; omega) (by omega) (by have := HM.out.2.2; simp; omega) (wr.heap.size + 1) (by simp) ?_); intro g8 c8 w2 hown8 hgrow8 hat8 hlt8; have HM2 : Hid (Mine w.heap.size w w2 (.slice (some ⟨g8, 0, none⟩) (L.length + 1) c8) (L ++ [y])) := Lib.hid (HM.out.app _ hgrow8 hown8); clear tok1 _t hown8 hgrow8 hat8 hlt8)
            go_roundw
            case rel => exact ⟨i + 1, _, false, rfl, rfl, by omega, by go_num, HB2, Lib.hid (by rw [HT.out, HO.out]; exact HM2.out)⟩
            case measure => simp [intOf]; omega
          · have t1 : ¬ x.2 < y.2 := by omega
            have t2 : (x.2 == y.2) = true := by simp; omega
            have t3 : ¬ x.1 < y.1 := by omega
            clear hA hE
            have tok1 : True := trivial
            go_wp2_with (at_builtin; have _t := tok1; go_must (refine wpList_append_lies _ (by rfl) _ _ 26 (by rfl) w.heap.size 33 i0 (.agg #[.int .i64 0, .int .i64 0]) 2 16 Try.underlying26 HI0.out HZ0.out HZ1.out HZ2.out (by rfl) (by omega) o _ _ (by rfl) (HM.out.1.alloc _) ⟨wr.heap.size, 0, none⟩ 1 1 [.int .i64 y.1, .int .i64 y.2] (by rfl) (by rfl) (by exact World.news_of_block (heap_alloc_new _ _)) (by simp [Value.oneCell']) (by omega) (by unfold maxLen; omega) (by omega) (by have := HM.out.2.2; simp; omega) (wr.heap.size + 1) (by simp) ?_); intro g8 c8 w2 hown8 hgrow8 hat8 hlt8; have HM2 : Hid (Mine w.heap.size w w2 (.slice (some ⟨g8, 0, none⟩) (L.length + 1) c8) (L ++ [y])) := Lib.hid (HM.out.app _ hgrow8 hown8); clear tok1 _t hown8 hgrow8 hat8 hlt8)
            go_roundw
            case rel => exact ⟨i + 1, _, false, rfl, rfl, by omega, by go_num, HB2, Lib.hid (by rw [HT.out, HO.out]; exact HM2.out)⟩
            case measure => simp [intOf]; omega
    · obtain rfl : i = n := by omega
      have HTK : Hid (l.take i = l) := Lib.hid (List.take_of_length_le (by rw [HL.out]; exact Nat.le_refl _))
      rw [HTK.out] at HM HB
      have HEND := Lib.hid (out_end x l)
      have HX := Lib.hid (out_len x l)
      obtain ⟨A', c', rfl⟩ := HM.out.form
      cases b with
      | true =>
        have HR : Hid (Mine w.heap.size w wr (.slice A' (out x l).length c') (insL x l)) := Lib.hid (by rw [HEND.out, ← HB.out, if_pos rfl]; exact HM.out)
        generalize (out x l).length = K at HR
        clear HM HX HEND
        go_wp2_with fail
        go_ret2
        exact ⟨_, rfl, HR.out⟩
      | false =>
        have HR : Hid (out x l ++ [x] = insL x l) := Lib.hid (by rw [HEND.out, ← HB.out, if_neg (by decide)])
        have hx1 := HX.out
        rw [HL.out] at hx1
        generalize out x l = L at HM HR hx1
        clear HX HEND
        have tok1 : True := trivial
        go_wp2_with (at_builtin; have _t := tok1; go_must (refine wpList_append_lies _ (by rfl) _ _ 26 (by rfl) w.heap.size 33 i0 (.agg #[.int .i64 0, .int .i64 0]) 2 16 Try.underlying26 HI0.out HZ0.out HZ1.out HZ2.out (by rfl) (by omega) (.slice A' L.length c') _ _ (by rfl) (HM.out.1.alloc _) ⟨wr.heap.size, 0, none⟩ 1 1 [.int .i64 x.1, .int .i64 x.2] (by rfl) (by rfl) (by exact World.news_of_block (heap_alloc_new _ _)) (by simp [Value.oneCell']) (by omega) (by unfold maxLen; omega) (by omega) (by have := HM.out.2.2; simp; omega) (wr.heap.size + 1) (by simp) ?_); intro g8 c8 w2 hown8 hgrow8 hat8 hlt8; have HM2 : Hid (Mine w.heap.size w w2 (.slice (some ⟨g8, 0, none⟩) (L.length + 1) c8) (L ++ [x])) := Lib.hid (HM.out.app _ hgrow8 hown8); clear tok1 _t hown8 hgrow8 hat8 hlt8)
        go_ret2
        exact ⟨_, rfl, by rw [← HR.out]; exact HM2.out⟩
end Go.Proofs.Ytajlbiohaafpnaa.Qu
