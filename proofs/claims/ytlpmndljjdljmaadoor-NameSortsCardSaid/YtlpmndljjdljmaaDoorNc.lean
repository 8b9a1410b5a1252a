/-
  WALKS: name.Check, with isSpelt, isNameRune, isDigit; the document's own Check, with may: what keeps a text from being a name.
-/
import Derived.Test.YtlpmndljjdljmaaDoorNm
import Derived.Test.YtlpmndljjdljmaaDoorRows
import Derived.ProofKit
import Derived.WalkSpells
import Derived.WalkLawsBesides
import Derived.Lib.Hide
import Derived.Lib.OthersKept
import Derived.Laws.RangeAny
import Derived.LoopTactic
import Derived.Below
namespace Go.Proofs.YtlpmndljjdljmaaDoor.By
open Go.RowKit
open Nam

theorem ret_bool {a b : Bool} (h : a = b) : Ending.returned (.bool a) = .returned (.bool b) := by rw [h]

theorem digit_is (c : Int) (b : Bool) (h : digR c = b) (w : World) : Calls Tryd.prog 28 #[.int .i32 c] w fun e w' => e = .returned (.bool b) ∧ w = w' := by
  have hb : (48 ≤ c ∧ c ≤ 57 ∧ b = true) ∨ ((c < 48 ∨ 57 < c) ∧ b = false) := by
    subst h; unfold digR; simp; omega
  clear h
  rcases hb with ⟨h1, h2, rfl⟩ | ⟨h1 | h1, rfl⟩
  all_goals
    go_enter Tryd.func28, Tryd.ntmps28
    go_wp2
    all_goals go_ret
    all_goals exact ⟨ret_bool (by first | rfl | (simp; omega)), rfl⟩

theorem rune_is (c : Int) (b : Bool) (h : mayR c = b) (w : World) : Calls Tryd.prog 27 #[.int .i32 c] w fun e w' => e = .returned (.bool b) ∧ w = w' := by
  have hb : (97 ≤ c ∧ c ≤ 122 ∧ b = true) ∨ (c < 97 ∧ digR c = true ∧ b = true) ∨ (c < 97 ∧ digR c = false ∧ (c == 95) = true ∧ b = true) ∨ (c < 97 ∧ digR c = false ∧ (c == 95) = false ∧ (c == 46) = true ∧ b = true)
      ∨ (c < 97 ∧ digR c = false ∧ (c == 95) = false ∧ (c == 46) = false ∧ b = false) ∨ (97 ≤ c ∧ 122 < c ∧ digR c = false ∧ (c == 95) = false ∧ (c == 46) = false ∧ b = false) := by
    subst h; unfold mayR digR; simp; omega
  clear h
  rcases hb with ⟨h1, h2, rfl⟩ | ⟨h1, h2, rfl⟩ | ⟨h1, h2, h3, rfl⟩ | ⟨h1, h2, h3, h4, rfl⟩ | ⟨h1, h2, h3, h4, rfl⟩ | ⟨h1, h5, h2, h3, h4, rfl⟩
  · go_enter Tryd.func27, Tryd.ntmps27
    go_wp2
    all_goals go_ret
    all_goals exact ⟨rfl, rfl⟩
  all_goals
    have HD := Lib.hid (digit_is c _ h2)
    clear h2
    go_enter Tryd.func27, Tryd.ntmps27
    go_wp2_with (go_at_call 28; refine (HD.out _).mono ?_; rintro e w' ⟨rfl, rfl⟩)
    all_goals go_ret
    all_goals exact ⟨ret_bool (by first | rfl | (simp; omega)), rfl⟩

theorem ok_no_dig {ok : Bool} {c : Int} {p : Nat} (hok : ok = true ↔ mayR c = true ∧ (p = 0 → digR c = false)) (h0 : p = 0) (h2 : digR c = true) : ok = false := by
  cases ok with
  | false => rfl
  | true => have := (hok.1 rfl).2 h0; rw [h2] at this; cases this

theorem ok_no_may {ok : Bool} {c : Int} {p : Nat} (hok : ok = true ↔ mayR c = true ∧ (p = 0 → digR c = false)) (h1 : ¬ mayR c = true) : ok = false := by
  cases ok with
  | false => rfl
  | true => exact absurd (hok.1 rfl).1 h1

theorem no_dig {c : Int} {p : Nat} (h2 : ¬ (p = 0 ∧ digR c = true)) (h0 : p = 0) : digR c = false := by
  cases hd : digR c with
  | false => rfl
  | true => exact absurd ⟨h0, hd⟩ h2

theorem iterPos_of {w : World} {k : Nat} {s : ByteArray} {p : Nat} (h : w.heap[k]? = some (.stringIter s p)) : w.iterPos k = p := by simp [World.iterPos, h]

set_option maxHeartbeats 2000000 in
theorem spelt_any (s : ByteArray) (w : World) (hs : s.size ≤ 1000) :
    Calls Tryd.prog 17 #[.string s] w fun e w' => e = .returned (.bool (spelt s.data.toList)) ∧ Below w.heap.size w w' := by
  go_enter Tryd.func17, Tryd.ntmps17
  go_wp2
  go_loopw [3] (fun _ wr => ∃ pos : Nat, pos ≤ s.size ∧ wr.heap[w.heap.size]? = some (.stringIter s pos) ∧ Hid (Below w.heap.size w wr) ∧ Hid (∀ j (h : j < s.data.toList.length), j < pos → okAt j s.data.toList[j] = true)) (fun _ wr => s.size - wr.iterPos w.heap.size)
  case atStart => exact ⟨0, by omega, World.iter_heap w s 0, Lib.hid ((Below.refl _ _).alloc (Nat.le_refl _) _), Lib.hid (fun j _ h => by omega)⟩
  case round =>
    obtain ⟨pos, hpos, hit, HB, HO⟩ := hrel
    have hpos0 := iterPos_of hit
    have hpos0' := hpos0
    by_cases hp : pos < s.size
    · have hpl : pos < s.data.toList.length := by simpa using hp
      have hgl : (s[pos]'hp) = s.data.toList[pos] := by simp [ByteArray.getElem_eq_getElem_data]
      by_cases hx : (s[pos]'hp).toNat < 128
      · have hnx : ∀ ty, (Instr.next (.pointer (some ⟨w.heap.size, 0, none⟩)) true ty).run Tryd.prog wr = _ := fun ty => Lib.run_next_ascii_at wr w.heap.size s pos ty hit hp hx
        have hit2 := Lib.iterAt_heap wr w.heap.size s pos (pos + 1) hit
        have HB2 := Lib.hid (Lib.below_iterAt HB.out (k := w.heap.size) (Nat.le_refl _) s (pos + 1))
        obtain ⟨W1, hW1⟩ : ∃ W1, wr.iterAt w.heap.size s (pos + 1) = W1 := ⟨_, rfl⟩
        rw [hW1] at hnx hit2 HB2
        have hpos2 := iterPos_of hit2
        have hok := okAt_eq pos (s[pos]'hp)
        have HE : Hid (okAt pos s.data.toList[pos] = okAt pos (s[pos]'hp)) := Lib.hid (by rw [hgl])
        clear hit HB hW1 hgl hx hpos0
        generalize okAt pos (s[pos]'hp) = ok at hok HE
        generalize ((s[pos]'hp).toNat : Int) = c at hnx hok
        by_cases h1 : mayR c = true
        · by_cases h2 : pos = 0 ∧ digR c = true
          · obtain ⟨rfl, h2⟩ := h2
            have HF := Lib.hid (not_spelt hpl (by rw [HE.out]; exact ok_no_dig hok rfl h2))
            have HR := Lib.hid (rune_is c true h1)
            have HD := Lib.hid (digit_is c true h2)
            clear h1 h2 hok HE HO hit2 hpos2
            go_wp2_with (first | (go_at_call 27; refine (HR.out _).mono ?_; rintro e w' ⟨rfl, rfl⟩) | (go_at_call 28; refine (HD.out _).mono ?_; rintro e w' ⟨rfl, rfl⟩))
            go_ret
            exact ⟨ret_bool HF.out.symm, HB2.out⟩
          · have HO2 : Hid (∀ j (h : j < s.data.toList.length), j < pos + 1 → okAt j s.data.toList[j] = true) := Lib.hid (fun j hj hjp => by
              by_cases hjpos : j = pos
              · subst hjpos; rw [HE.out]; exact hok.2 ⟨h1, fun h0 => no_dig h2 h0⟩
              · exact HO.out j hj (by omega))
            have HR := Lib.hid (rune_is c true h1)
            have HD := Lib.hid (digit_is c (digR c) rfl)
            have hz : pos = 0 ∨ ((pos : Int) == 0) = false := by
              by_cases h0 : pos = 0
              · exact .inl h0
              · exact .inr (by simp; omega)
            rcases hz with rfl | hz
            · have hd : digR c = false := no_dig h2 rfl
              rw [hd] at HD
              clear h1 h2 hok HE HO hd
              go_wp2_with (first | (go_at_call 27; refine (HR.out _).mono ?_; rintro e w' ⟨rfl, rfl⟩) | (go_at_call 28; refine (HD.out _).mono ?_; rintro e w' ⟨rfl, rfl⟩))
              go_roundw
              case rel => exact ⟨0 + 1, by omega, hit2, HB2, HO2⟩
              case measure => rw [hpos2, hpos0']; omega
            · clear h1 h2 hok HE HO HD
              go_wp2_with (go_at_call 27; refine (HR.out _).mono ?_; rintro e w' ⟨rfl, rfl⟩)
              go_roundw
              case rel => exact ⟨pos + 1, by omega, hit2, HB2, HO2⟩
              case measure => rw [hpos2, hpos0']; omega
        · have h1f : mayR c = false := by simpa using h1
          have HF := Lib.hid (not_spelt hpl (by rw [HE.out]; exact ok_no_may hok h1))
          have HR := Lib.hid (rune_is c false h1f)
          clear h1 h1f hok HE HO hit2 hpos2
          go_wp2_with (go_at_call 27; refine (HR.out _).mono ?_; rintro e w' ⟨rfl, rfl⟩)
          go_ret
          exact ⟨ret_bool HF.out.symm, HB2.out⟩
      · have hnx : ∀ ty, (Instr.next (.pointer (some ⟨w.heap.size, 0, none⟩)) true ty).run Tryd.prog wr = _ := fun ty => Lib.run_next_any_at wr w.heap.size s pos ty hit hp
        have hhi := (decode_high s pos hp (by omega)).1
        have HB2 := Lib.hid (Lib.below_iterAt HB.out (k := w.heap.size) (Nat.le_refl _) s (pos + (Utf8.decode s pos).2))
        generalize wr.iterAt w.heap.size s (pos + (Utf8.decode s pos).2) = W1 at hnx HB2
        have hmay : mayR (((s[pos]'hp).toNat : Nat) : Int) = false := no_may_high _ (by omega)
        have HF := Lib.hid (not_spelt hpl (by rw [← hgl]; unfold okAt; rw [hmay]; rfl))
        have HR := Lib.hid (rune_is ((Utf8.decode s pos).1 : Int) false (no_may_high _ (by omega)))
        generalize ((Utf8.decode s pos).1 : Int) = c at hnx HR
        clear hit HB hgl hx hhi hmay HO hpos0 hpos0'
        go_wp2_with (go_at_call 27; refine (HR.out _).mono ?_; rintro e w' ⟨rfl, rfl⟩)
        go_ret
        exact ⟨ret_bool HF.out.symm, HB2.out⟩
    · have hnx : ∀ ty, (Instr.next (.pointer (some ⟨w.heap.size, 0, none⟩)) true ty).run Tryd.prog wr = _ := fun ty => Lib.run_next_end_at wr w.heap.size s pos ty hit hp
      have HF := Lib.hid (is_spelt (l := s.data.toList) (fun j hj => HO.out j hj (by simp at hj; omega)))
      clear hit HO hpos0
      go_wp2
      go_ret
      exact ⟨ret_bool (by rw [HF.out, ByteArray.toList_eq]), HB.out⟩

/-- name.Check. -/
theorem check_any (s : ByteArray) (w : World) (hs : s.size ≤ 1000) :
    Calls Tryd.prog 8 #[.string s] w fun e w' => e = .returned (.int .i64 (checkV s.data.toList)) ∧ Below w.heap.size w w' := by
  by_cases h : 24 < s.size
  · have hd : decide (24 < (s.size : Int)) = true := by simp; omega
    have HE := Lib.hid (show checkV s.data.toList = 6 by unfold checkV; rw [if_pos (by simpa using h)])
    rw [HE.out]
    clear hs h
    go_enter Tryd.func8, Tryd.ntmps8
    go_wp2
    go_ret
    exact ⟨rfl, Below.refl _ _⟩
  · have hd : decide (24 < (s.size : Int)) = false := by simp; omega
    have HS := Lib.hid (spelt_any s w hs)
    have hE : checkV s.data.toList = if spelt s.data.toList then 0 else 7 := by unfold checkV; rw [if_neg (by simpa using h)]
    rw [hE]
    clear hs h hE
    cases hb : spelt s.data.toList
    all_goals
      rw [hb] at HS
      clear hb
      go_enter Tryd.func8, Tryd.ntmps8
      go_wp2_with (go_at_call 17; refine HS.out.mono ?_; rintro e w' ⟨rfl, hb'⟩)
      go_ret
      exact ⟨rfl, by assumption⟩
end Go.Proofs.YtlpmndljjdljmaaDoor.By
