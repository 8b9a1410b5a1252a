/-
  THERE AND BACK, in plain mathematics: a line's words with other blanks; words of texts that are joined.
-/
import Derived.Test.YtnplhpbbdgnmiaaDoorMg
namespace Go.Proofs.YtnplhpbbdgnmiaaDoor.Ln
open Go.RowKit
open Mem Go.Lib

/-- t has the words L, and whatever comes behind it begins anew. -/
def Has (t : ByteArray) (L : List ByteArray) : Prop := ∀ r, wl [] (t.data.toList ++ r) = L.map (·.data.toList) ++ wl [] r
theorem Has.start : Has ⟨#[]⟩ [] := fun _ => rfl
theorem wl_blank (r : List UInt8) : wl [] (32 :: r) = wl [] r := by
  simp [wl]
theorem Has.put {t x : ByteArray} {L : List ByteArray} (h : Has t L) (hx : Wd x.data.toList) : Has (t ++ x ++ ⟨#[32]⟩) (L ++ [x]) := fun r => by
  rw [ba_append, ba_append]
  have h1 : t.data.toList ++ x.data.toList ++ (⟨#[32]⟩ : ByteArray).data.toList ++ r = t.data.toList ++ (x.data.toList ++ 32 :: r) := by simp
  rw [h1, h, wl_app, wl_word hx]
  simp
theorem Has.wide {t : ByteArray} {L : List ByteArray} (h : Has t L) : Has (⟨#[32]⟩ ++ t ++ ⟨#[32]⟩) L := fun r => by
  rw [ba_append, ba_append]
  have h1 : (⟨#[32]⟩ : ByteArray).data.toList ++ t.data.toList ++ (⟨#[32]⟩ : ByteArray).data.toList ++ r = 32 :: (t.data.toList ++ 32 :: r) := by simp
  rw [h1, wl_blank, h, wl_blank]
theorem Has.words {t : ByteArray} {L : List ByteArray} (h : Has t L) : wordsL t = L := map_inj (by
  rw [words_wl]
  have := h []
  rw [List.append_nil] at this
  rw [this]; simp [wl])

theorem wr_size {x : Nat} {v : Int} (h : I64 v) : (wrV x v).1.size ≤ 20 := by
  unfold wrV
  split
  · have := text_size (wrap64 (1 + v)); show (Si.textV _).size ≤ 20; omega
  · exact dec_size h

theorem wds_size {a b c n : Int} (H : ∀ i : Int, I64 (By.opdV a b c n i)) : ∀ (r : List UInt8) (i : Nat) (ws : List ByteArray), wds a b c n i r = some ws → ws.length ≤ r.length ∧ ∀ y ∈ ws, y.size ≤ 20
  | [], i, ws, h => by
    rw [wds] at h; injection h with h; subst h; simp
  | x :: r, i, ws, h => by
    rw [wds] at h
    split at h
    · have := wds_size H r _ ws h
      exact ⟨by simp only [List.length_cons]; omega, this.2⟩
    · split at h
      · cases hr : wds a b c n (i + 1) r with
        | none => rw [hr] at h; cases h
        | some ws2 =>
          rw [hr] at h
          simp only [Option.map_some, Option.some.injEq] at h
          subst h
          have := wds_size H r _ ws2 hr
          refine ⟨by simp only [List.length_cons]; omega, fun y hy => ?_⟩
          rcases List.mem_cons.1 hy with rfl | hy
          · exact wr_size (H i)
          · exact this.2 y hy
      · cases h

/-- What there is to say of an instruction that has a line. -/
theorem line_facts {o a b c n : Int} (H : ∀ i : Int, I64 (By.opdV a b c n i)) (h0 : (txtV o a b c n).2 = 0) :
    (wordsL (txtV o a b c n).1).length ≤ 5 ∧ (∀ y ∈ wordsL (txtV o a b c n).1, y.size ≤ 20 ∧ Wd y.data.toList) := by
  have hch : By.chV o a b c n = 0 := by
    rcases Classical.em (By.chV o a b c n = 0) with h | h
    · exact h
    · unfold txtV at h0; rw [if_pos h] at h0; exact h0
  have hx : txtV o a b c n = if By.ownV o = false then (⟨#[]⟩, (8 : Int)) else match wds a b c n 0 (By.shV o).data.toList with | some ws => (joinB (By.nmV o :: ws), (0 : Int)) | none => (⟨#[]⟩, (9 : Int)) := by
    unfold txtV; rw [if_neg (by rw [hch]; decide)]; rfl
  cases ho : By.ownV o with
  | false => rw [hx, if_pos ho] at h0; cases h0
  | true =>
    rw [if_neg (by rw [ho]; decide)] at hx
    cases hw : wds a b c n 0 (By.shV o).data.toList with
    | none => rw [hx, hw] at h0; cases h0
    | some ws =>
      rw [hw] at hx
      obtain ⟨_, h2⟩ := line_back H hch ho hw
      have hs := wds_size H _ _ ws hw
      have hl := (shape_facts o).1
      rw [← len_list] at hl
      have hwd : wordsL (txtV o a b c n).1 = By.nmV o :: ws := by rw [hx]; simp only; rw [words_join, words_self h2]
      rw [hwd]
      refine ⟨by simp only [List.length_cons]; omega, fun y hy => ⟨?_, h2 y hy⟩⟩
      rcases List.mem_cons.1 hy with rfl | hy
      · have := name_size o; omega
      · exact hs.2 y hy

theorem line_small {o a b c n : Int} (H : ∀ i : Int, I64 (By.opdV a b c n i)) (h0 : (txtV o a b c n).2 = 0) : (txtV o a b c n).1.size ≤ 1000 := by
  have hch : By.chV o a b c n = 0 := by
    rcases Classical.em (By.chV o a b c n = 0) with h | h
    · exact h
    · unfold txtV at h0; rw [if_pos h] at h0; exact h0
  have hx : txtV o a b c n = if By.ownV o = false then (⟨#[]⟩, (8 : Int)) else match wds a b c n 0 (By.shV o).data.toList with | some ws => (joinB (By.nmV o :: ws), (0 : Int)) | none => (⟨#[]⟩, (9 : Int)) := by
    unfold txtV; rw [if_neg (by rw [hch]; decide)]; rfl
  cases ho : By.ownV o with
  | false => rw [hx, if_pos ho]; show (0 : Nat) ≤ 1000; omega
  | true =>
    rw [if_neg (by rw [ho]; decide)] at hx
    cases hw : wds a b c n 0 (By.shV o).data.toList with
    | none => rw [hx, hw]; show (0 : Nat) ≤ 1000; omega
    | some ws =>
      rw [hx, hw]
      have hs := wds_size H _ _ ws hw
      have hl := (shape_facts o).1
      rw [← len_list] at hl
      have h1 := join_len 20 ((By.nmV o :: ws).map (·.data.toList)) (by
        intro y hy
        obtain ⟨z, hz, rfl⟩ := List.mem_map.1 hy
        rw [len_list]
        rcases List.mem_cons.1 hz with rfl | hz
        · have := name_size o; omega
        · exact hs.2 z hz)
      rw [List.length_map, List.length_cons] at h1
      have h2 : (joinB (By.nmV o :: ws)).size = (Lib.join ((By.nmV o :: ws).map (·.data.toList)) [32]).length := by rw [← len_list]; simp [joinB]
      show (joinB (By.nmV o :: ws)).size ≤ 1000
      rw [h2]
      have h3 : (ws.length + 1) * (20 + 1) ≤ 5 * 21 := Nat.mul_le_mul_right 21 (by omega)
      omega

theorem flat_take {l : List ByteArray} {k : Nat} {x : ByteArray} (h : l[k]? = some x) : (l.take (k + 1)).flatMap wordsL = (l.take k).flatMap wordsL ++ wordsL x := by
  obtain ⟨h1, h2⟩ := List.getElem?_eq_some_iff.1 h
  rw [List.take_succ_eq_append_getElem h1, h2, List.flatMap_append]
  simp

theorem flat_few {l : List ByteArray} (h : Few l 40 100) : ∀ k, ((l.take k).flatMap wordsL).length ≤ k * 101 := by
  intro k
  induction k with
  | zero => simp
  | succ k ih =>
    by_cases hk : k < l.length
    · rw [flat_take (List.getElem?_eq_getElem hk), List.length_append]
      have h1 := words_few l[k]
      have h2 := h.2 l[k] (List.getElem_mem hk)
      omega
    · rw [List.take_of_length_le (by omega), ← List.take_of_length_le (l := l) (i := k) (by omega)]
      omega

theorem join_small {l : List ByteArray} (h : Few l 40 100) : (joinB l).size ≤ 4040 := by
  have h1 := join_len 100 (l.map (·.data.toList)) (by
    intro y hy
    obtain ⟨z, hz, rfl⟩ := List.mem_map.1 hy
    rw [len_list]; exact h.2 z hz)
  rw [List.length_map] at h1
  have h2 : (joinB l).size = (Lib.join (l.map (·.data.toList)) [32]).length := by rw [← len_list]; simp [joinB]
  have h3 : l.length * (100 + 1) ≤ 40 * 101 := Nat.mul_le_mul_right 101 h.1
  omega
end Go.Proofs.YtnplhpbbdgnmiaaDoor.Ln
