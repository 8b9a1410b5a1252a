/-
  WALKS of layer 9: Words and Split.
-/
import Derived.Test.YtnplhpbbdgnmiaaGreatDoorLe
import Derived.Test.YtnplhpbbdgnmiaaGreatDoorShelf
namespace Go.Proofs.YtnplhpbbdgnmiaaGreatDoor.Ln
open Go.RowKit
open Mem Go.Lib

/-- A list of texts that a call hands back. -/
def LAns (l : List ByteArray) (w : World) (e : Ending) (w' : World) : Prop := ∃ A c, e = .returned (.slice A l.length c) ∧ SlV w' w'.heap.size (.slice A l.length c) (strs l) ∧ Below w.heap.size w w'
theorem TAns.list {l : List ByteArray} {w w' : World} {e : Ending} (h : TAns l w e w') : LAns l w e w' := by
  obtain ⟨v, rfl, h2, h3⟩ := h
  have h4 := SlV.of_own h2
  obtain ⟨A, c, rfl⟩ := h4.form
  rw [strs_length] at h4 ⊢
  exact ⟨A, c, rfl, h4, h3⟩

theorem blank_any (x : Nat) (W : World) : Calls Tryz.prog 25 #[.int .i32 (x : Int)] W fun e w' => e = .returned (.bool (blankP x)) ∧ Below W.heap.size W w' := by
  by_cases h : x = 32
  · have hb : blankP x = true := by subst h; rfl
    have hq : ((x : Int) == 32) = true := by subst h; rfl
    rw [hb]
    clear h
    go_enter Tryz.func25, Tryz.ntmps25
    go_wp2
    go_ret
    exact ⟨rfl, Below.refl _ _⟩
  · have hb : blankP x = false := by simpa [blankP] using h
    have hq : ((x : Int) == 32) = false := by simp; omega
    rw [hb]
    clear h
    go_enter Tryz.func25, Tryz.ntmps25
    go_wp2
    go_ret
    exact ⟨rfl, Below.refl _ _⟩

theorem fields_any (s : ByteArray) (w : World) (hs : s.size ≤ 1000000) : Calls Tryz.prog 24 #[.string s, .func (.func 25) #[] #[]] w (LAns (wordsL s) w) := by
  refine (Tryz.strings_FieldsFunc_grows 25 #[] (enters_of Tryz.func25 (by kernel_rfl) rfl) blankP s w (by omega) fun W x _ _ => blank_any x W).mono fun e w' hh => ?_
  obtain ⟨A, h1, _, h2, h3⟩ := hh
  rw [fields_words] at h1 h2
  exact TAns.list ⟨_, h1, h2, h3⟩

theorem words_any (s : ByteArray) (w : World) (hs : s.size ≤ 1000000) : Calls Tryz.prog 12 #[.string s] w (LAns (wordsL s) w) := by
  have HF := Lib.hid (fields_any s w hs)
  clear hs
  go_enter Tryz.func12, Tryz.ntmps12
  go_wp2_with fail
  refine HF.out.mono ?_
  rintro e w1 ⟨A, c, rfl, h1, h2⟩
  have H1 := Lib.hid h1
  have H2 := Lib.hid h2
  clear h1 h2
  go_wp2_with fail
  go_ret
  exact ⟨A, c, rfl, H1.out, H2.out⟩

theorem bytes_inj {a b : List ByteArray} (h : a.map (·.data.toList) = b.map (·.data.toList)) : a = b := by
  induction a generalizing b with
  | nil => cases b with
    | nil => rfl
    | cons y b => simp at h
  | cons x a ih => cases b with
    | nil => simp at h
    | cons y b =>
      simp only [List.map_cons, List.cons.injEq] at h
      have e : x = y := by
        obtain ⟨⟨lx⟩⟩ := x; obtain ⟨⟨ly⟩⟩ := y
        simp only at h
        rw [h.1]
      rw [e, ih h.2]

theorem split_lines (s : ByteArray) : splitB ⟨#[10]⟩ 0 (countB s ⟨#[10]⟩) s = (lsB s s.size).1.map (pc s) ++ [s.extract (lsB s s.size).2 s.size] := by
  apply bytes_inj
  rw [splitB_data]
  show splitK [10] 0 (count s.data.toList [10]) s.data.toList = _
  rw [splitK_part]
  obtain ⟨h, t, h1, h2⟩ := part_lsB s s.size (Nat.le_refl _)
  rw [List.drop_of_length_le (by obtain ⟨a⟩ := s; show a.toList.length ≤ a.size; rw [Array.length_toList]; exact Nat.le_refl _)] at h1
  rw [partL] at h1
  injection h1 with e1 e2
  subst e1 e2
  rw [h2]
  simp

/-- The greatest length that bytealg knows: a number, whatever it is. -/
def Mx (w : World) : Prop := ∃ m, w.cell? ⟨6, 0, none⟩ = some (.int .i64 m)
theorem Mx.below {w w' : World} (h : Mx w) (hb : Below w.heap.size w w') : Mx w' := by
  obtain ⟨m, hm⟩ := h
  exact ⟨m, (hb.cell (World.block_lt_of_cell? w _ hm)).trans hm⟩

theorem cut_list {w : World} {g : Nat} {t : TypeId} (l r : List ByteArray) (c : Nat) (hb : Blk w g t (strs (l ++ r)).toArray) (hc : l.length ≤ c) (hm : c ≤ maxLen) : SlV w w.heap.size (.slice (some ⟨g, 0, none⟩) l.length c) (strs l) := by
  have : SlV w w.heap.size (.slice (some ⟨g, 0, none⟩) (strs l).length c) (strs l) := .at_ _ c _ (by rw [strs_length]; exact hc) hm fun j u hu => ⟨hb.lt, by
    rw [Mem.add_plain, Nat.zero_add, hb.cell, ← Array.getElem?_toList]
    show (strs (l ++ r))[j]? = some u
    have hj : j < (strs l).length := (List.getElem?_eq_some_iff.1 hu).1
    rw [strs, List.map_append, List.getElem?_append_left (by rw [strs_length] at hj; simpa using hj)]
    exact hu⟩
  rwa [strs_length] at this

set_option maxRecDepth 100000 in
theorem split_any (s : ByteArray) (w : World) (hs : s.size ≤ 1000000) (h : Mx w) : Calls Tryz.prog 10 #[.string s] w (LAns (linesL s) w) := by
  obtain ⟨m, hm⟩ := h
  have hc := Tryz.strings_Split s ⟨#[10]⟩ m w (by omega) hm (by decide)
  have hcl : countB s ⟨#[10]⟩ + 1 = (splitB ⟨#[10]⟩ 0 (countB s ⟨#[10]⟩) s).length := by
    rw [splitB_all ⟨#[10]⟩ (by decide) 0 _ s rfl]
  rw [split_lines] at hc hcl
  obtain ⟨l, hl⟩ : ∃ l, (lsB s s.size).1.map (pc s) = l := ⟨_, rfl⟩
  obtain ⟨a, ha⟩ : ∃ a, (lsB s s.size).2 = a := ⟨_, rfl⟩
  have hll : l.length ≤ 1000000 := by rw [← hl, List.length_map]; exact Nat.le_trans (lsB_count s s.size) hs
  have hle := lsB_le s s.size
  rw [ha] at hle
  rw [hl, ha] at hc hcl
  rw [hcl] at hc
  have hlast : (strs (l ++ [s.extract a s.size]))[l.length]? = some (.string (s.extract a s.size)) := by simp [strs]
  obtain ⟨y, hy⟩ : ∃ y, s.extract a s.size = y := ⟨_, rfl⟩
  have hHF : linesL s = if a < s.size then l ++ [y] else l := by
    unfold linesL
    rw [ha]
    by_cases h : a < s.size
    · rw [if_pos h, if_pos h, List.map_append, hl, ← hy]; simp [pc]
    · rw [if_neg h, if_neg h, hl]
  have hys : (a < s.size ∧ (ByteArray.toList y).isEmpty = false) ∨ (¬ a < s.size ∧ (ByteArray.toList y).isEmpty = true) := by
    rw [ByteArray.toList_eq, ← hy, extract_data]
    have hlen : s.data.toList.length = s.size := by obtain ⟨b⟩ := s; show b.toList.length = b.size; rw [Array.length_toList]
    by_cases h : a < s.size
    · refine .inl ⟨h, ?_⟩
      rw [Bool.eq_false_iff]
      intro e
      rw [List.isEmpty_iff] at e
      have := congrArg List.length e
      rw [List.length_take, List.length_drop, hlen] at this
      simp at this; omega
    · refine .inr ⟨h, ?_⟩
      rw [show s.size - a = 0 by omega]; rfl
  rw [hy] at hc hlast
  have hn : (l ++ [y]).length = l.length + 1 := by simp
  rw [hn] at hc
  obtain ⟨n, hnn⟩ : ∃ n, l.length = n := ⟨_, rfl⟩
  rw [hnn] at hc hlast hll
  have HC := Lib.hid hc
  have HL := Lib.hid hlast
  have HHF := Lib.hid hHF
  have HNN := Lib.hid hnn
  clear hc hcl hl ha hlast hHF hy hn hnn hle hm hs
  go_enter Tryz.func10, Tryz.ntmps10
  go_wp2_with fail
  refine HC.out.mono ?_
  rintro e w1 ⟨rfl, hw1⟩
  have hblk : Blk w1 w.heap.size 9 (strs (l ++ [y])).toArray := by rw [hw1]; exact Blk.new w 9 _
  have cl : w1.cell? ⟨w.heap.size, n, none⟩ = some (.string y) := by rw [hblk.cell, ← Array.getElem?_toList]; exact HL.out
  have HBK := Lib.hid hblk
  have HB := Lib.hid (show Below w.heap.size w w1 by rw [hw1]; exact (Below.refl _ w).alloc (Nat.le_refl _) _)
  clear hblk hw1
  have hwn : IntKind.i64.wrap (((n + 1 : Nat) : Int) - 1) = (n : Int) := by
    have h5 : ((n + 1 : Nat) : Int) - 1 = (n : Int) := by omega
    rw [h5, IntKind.wrap_i64]; omega
  have hwn2 : IntKind.i64.wrap ((n : Int) + 1 - 1) = (n : Int) := by
    have h5 : (n : Int) + 1 - 1 = (n : Int) := by omega
    rw [h5, IntKind.wrap_i64]; omega
  have hnI : (n : Int) < (n : Int) + 1 := by omega
  rcases hys with ⟨h, hq⟩ | ⟨h, hq⟩
  · have HF := Lib.hid (show linesL s = l ++ [y] by rw [HHF.out, if_pos h])
    clear h
    go_wp2_with fail
    go_ret
    refine ⟨some ⟨w.heap.size, 0, none⟩, n + 1, by rw [HF.out]; simp [HNN.out], ?_, HB.out⟩
    rw [HF.out]
    exact cut_list (l ++ [y]) [] (n + 1) (by rw [List.append_nil]; exact HBK.out) (by simp [HNN.out]) (by unfold maxLen; omega)
  · have HF := Lib.hid (show linesL s = l by rw [HHF.out, if_neg h])
    clear h
    go_wp2_with fail
    go_ret
    refine ⟨some ⟨w.heap.size, 0, none⟩, n + 1, by rw [HF.out, HNN.out]; first | rfl | simp, ?_, HB.out⟩
    rw [HF.out]
    exact cut_list l [y] (n + 1) HBK.out (by rw [HNN.out]; omega) (by unfold maxLen; omega)
end Go.Proofs.YtnplhpbbdgnmiaaGreatDoor.Ln
