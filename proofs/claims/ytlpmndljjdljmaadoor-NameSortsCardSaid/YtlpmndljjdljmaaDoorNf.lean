/-
  WALKS: name.Find (slices.Index at texts) and the document's own Find: the first place of a text, or -1.
-/
import Derived.Test.YtlpmndljjdljmaaDoorNj
import Derived.Test.YtlpmndljjdljmaaDoorMem
namespace Go.Proofs.YtlpmndljjdljmaaDoor.By
open Go.RowKit
open Mem

/-- Texts as cells hold them. -/
def strs (l : List (List UInt8)) : List Value := l.map fun x => .string ⟨x.toArray⟩

theorem strs_length (l : List (List UInt8)) : (strs l).length = l.length := by simp [strs]
theorem strs_one (l : List (List UInt8)) : ∀ u ∈ strs l, u.oneCell' = true := by
  intro u hu
  obtain ⟨b, _, rfl⟩ := List.mem_map.1 hu
  rfl

/-- The first place of a text, or -1. -/
def idxFrom (x : List UInt8) : Nat → List (List UInt8) → Int
  | _, [] => -1
  | k, y :: l => if y = x then k else idxFrom x (k + 1) l

def idxV (l : List (List UInt8)) (x : List UInt8) : Int := idxFrom x 0 l

theorem idx_past (x : List UInt8) (a b : List (List UInt8)) : ∀ p, x ∉ a → idxFrom x p (a ++ b) = idxFrom x (p + a.length) b := by
  induction a with
  | nil => intro p _; rfl
  | cons y a ih =>
    intro p h
    have h1 : ¬ y = x := fun e => h (by rw [e]; exact List.mem_cons_self)
    have h2 : x ∉ a := fun e => h (List.mem_cons_of_mem _ e)
    rw [List.cons_append, idxFrom, if_neg h1, ih _ h2]
    congr 1
    simp; omega

theorem idx_here (l : List (List UInt8)) (x : List UInt8) (k : Nat) (hk : k < l.length) (h : l[k] = x) (hn : x ∉ l.take k) : idxV l x = k := by
  have e : l = l.take k ++ x :: l.drop (k + 1) := by
    rw [← h]; simp
  unfold idxV
  rw [e, idx_past x _ _ 0 hn, idxFrom, if_pos rfl]
  simp [Nat.min_eq_left (Nat.le_of_lt hk)]

theorem idx_none (l : List (List UInt8)) (x : List UInt8) (h : x ∉ l) : idxV l x = -1 := by
  have := idx_past x l [] 0 h
  rw [List.append_nil] at this
  exact this

theorem idx_ge (x : List UInt8) (l : List (List UInt8)) : ∀ p : Nat, x ∈ l → (p : Int) ≤ idxFrom x p l := by
  induction l with
  | nil => intro p h; cases h
  | cons y l ih =>
    intro p h
    rw [idxFrom]
    split
    · omega
    · rename_i hne
      have := ih (p + 1) (by rcases List.mem_cons.1 h with e | e; exact absurd e.symm hne; exact e)
      omega

theorem idx_neg (l : List (List UInt8)) (x : List UInt8) : idxV l x < 0 ↔ x ∉ l := by
  constructor
  · intro h hm
    have := idx_ge x l 0 hm
    unfold idxV at h
    omega
  · intro h
    rw [idx_none l x h]; omega

theorem text_list (x : List UInt8) : ByteArray.toList ⟨x.toArray⟩ = x := by rw [ByteArray.toList_eq]

theorem not_next {l : List (List UInt8)} {x : List UInt8} {k : Nat} (hk : k < l.length) (hn : x ∉ l.take k) (h : ¬ l[k] = x) : x ∉ l.take (k + 1) := by
  rw [List.take_succ_eq_append_getElem hk, List.mem_append]
  intro hh
  rcases hh with hh | hh
  · exact hn hh
  · exact h (List.mem_singleton.1 hh).symm

set_option maxHeartbeats 1000000 in
theorem index_any (w : World) (B : Nat) (v : Value) (l : List (List UInt8)) (s : ByteArray) (h : SlV w B v (strs l)) (hl : l.length ≤ 1000000) :
    Calls Tryd.prog 21 #[v, .string s] w fun e w' => e = .returned (.int .i64 (idxV l s.data.toList)) ∧ ∃ n, w' = w.drewN n := by
  have hv := h.form
  rw [strs_length] at hv
  obtain ⟨A, c, rfl⟩ := hv
  have HC := Lib.hid (show ∀ j (hj : j < l.length), ∃ ad, A = some ad ∧ l.length ≤ c ∧ w.cell? (ad.add j) = some (.string ⟨l[j].toArray⟩) from fun j hj => by
    rcases h.inv with ⟨_, h0, _⟩ | ⟨ad, e, _, h2, _, hr⟩
    · omega
    · exact ⟨ad, e, h2, (hr j _ (by simp [strs, hj])).2⟩)
  clear h
  obtain ⟨n, hn⟩ : ∃ n, l.length = n := ⟨_, rfl⟩
  have HN := Lib.hid hn
  rw [hn] at hl ⊢
  have HSL := Lib.hid (show ByteArray.toList s = s.data.toList from ByteArray.toList_eq ..)
  clear hn
  go_enter Tryd.func21, Tryd.ntmps21
  go_wp2_with fail
  go_loop [8] (fun i => ∃ k : Nat, k ≤ n ∧ i = .int .i64 k ∧ Hid (s.data.toList ∉ l.take k)) (fun i => n - (intOf i).toNat)
  case atStart => exact ⟨0, by omega, rfl, Lib.hid (by simp)⟩
  case round =>
    obtain ⟨k, hk, rfl, HNI⟩ := hrel
    by_cases hlt : k < n
    · have hkl : k < l.length := by rw [HN.out]; exact hlt
      obtain ⟨ad, rfl, hnc, hx⟩ := HC.out k hkl
      rw [HN.out] at hnc
      by_cases he : l[k] = s.data.toList
      · have HF := Lib.hid (idx_here l _ k hkl he HNI.out)
        have heq : (ByteArray.toList s == ByteArray.toList ⟨l[k].toArray⟩) = true := by rw [HSL.out, text_list, he]; simp
        generalize (⟨l[k].toArray⟩ : ByteArray) = y at hx heq
        clear he hkl
        go_wp2_with fail
        go_ret
        exact ⟨ret_i64 (by rw [HF.out]), 0, rfl⟩
      · have HN2 := Lib.hid (not_next hkl HNI.out he)
        have heq : (ByteArray.toList s == ByteArray.toList ⟨l[k].toArray⟩) = false := by rw [HSL.out, text_list]; simpa using fun e => he e.symm
        generalize (⟨l[k].toArray⟩ : ByteArray) = y at hx heq
        clear he hkl HNI
        go_wp2_with fail
        go_round
        case rel => exact ⟨k + 1, by omega, by go_num, HN2⟩
        case measure => simp [intOf]; omega
    · have HF := Lib.hid (idx_none l s.data.toList (by have := HNI.out; rwa [List.take_of_length_le (by rw [HN.out]; omega)] at this))
      go_wp2_with fail
      go_ret
      exact ⟨ret_i64 (by rw [HF.out]), 0, rfl⟩

set_option maxHeartbeats 1000000 in
theorem rfind_any (w : World) (B : Nat) (v : Value) (l : List (List UInt8)) (s : ByteArray) (h : SlV w B v (strs l)) (hl : l.length ≤ 1000000) :
    Calls Tryd.prog 13 #[v, .string s] w fun e w' => e = .returned (.int .i64 (idxV l s.data.toList)) ∧ ∃ n, w' = w.drewN n := by
  have hv := h.form
  rw [strs_length] at hv
  obtain ⟨A, c, rfl⟩ := hv
  have HC := Lib.hid (show ∀ j (hj : j < l.length), ∃ ad, A = some ad ∧ l.length ≤ c ∧ w.cell? (ad.add j) = some (.string ⟨l[j].toArray⟩) from fun j hj => by
    rcases h.inv with ⟨_, h0, _⟩ | ⟨ad, e, _, h2, _, hr⟩
    · omega
    · exact ⟨ad, e, h2, (hr j _ (by simp [strs, hj])).2⟩)
  clear h
  obtain ⟨n, hn⟩ : ∃ n, l.length = n := ⟨_, rfl⟩
  have HN := Lib.hid hn
  rw [hn] at hl ⊢
  have HSL := Lib.hid (show ByteArray.toList s = s.data.toList from ByteArray.toList_eq ..)
  clear hn
  go_enter Tryd.func13, Tryd.ntmps13
  go_wp2_with fail
  go_loop [5] (fun i => ∃ k : Nat, k ≤ n ∧ i = .int .i64 k ∧ Hid (s.data.toList ∉ l.take k)) (fun i => n - (intOf i).toNat)
  case atStart => exact ⟨0, by omega, rfl, Lib.hid (by simp)⟩
  case round =>
    obtain ⟨k, hk, rfl, HNI⟩ := hrel
    by_cases hlt : k < n
    · have hkl : k < l.length := by rw [HN.out]; exact hlt
      obtain ⟨ad, rfl, hnc, hx⟩ := HC.out k hkl
      rw [HN.out] at hnc
      by_cases he : l[k] = s.data.toList
      · have HF := Lib.hid (idx_here l _ k hkl he HNI.out)
        have heq : (ByteArray.toList ⟨l[k].toArray⟩ == ByteArray.toList s) = true := by rw [HSL.out, text_list, he]; simp
        generalize (⟨l[k].toArray⟩ : ByteArray) = y at hx heq
        clear he hkl
        go_wp2_with fail
        go_ret
        exact ⟨ret_i64 (by rw [HF.out]), 0, rfl⟩
      · have HN2 := Lib.hid (not_next hkl HNI.out he)
        have heq : (ByteArray.toList ⟨l[k].toArray⟩ == ByteArray.toList s) = false := by rw [HSL.out, text_list]; simpa using he
        generalize (⟨l[k].toArray⟩ : ByteArray) = y at hx heq
        clear he hkl HNI
        go_wp2_with fail
        go_round
        case rel => exact ⟨k + 1, by omega, by go_num, HN2⟩
        case measure => simp [intOf]; omega
    · have HF := Lib.hid (idx_none l s.data.toList (by have := HNI.out; rwa [List.take_of_length_le (by rw [HN.out]; omega)] at this))
      go_wp2_with fail
      go_ret
      exact ⟨ret_i64 (by rw [HF.out]), 0, rfl⟩

theorem find_any (w : World) (B : Nat) (v : Value) (l : List (List UInt8)) (s : ByteArray) (h : SlV w B v (strs l)) (hl : l.length ≤ 1000000) :
    Calls Tryd.prog 12 #[v, .string s] w fun e w' => e = .returned (.int .i64 (idxV l s.data.toList)) ∧ ∃ n, w' = w.drewN n := by
  have HI := Lib.hid (index_any w B v l s h hl)
  obtain ⟨A, c, rfl⟩ := h.form
  clear h
  rw [strs_length] at HI ⊢
  generalize l.length = n at HI ⊢
  go_enter Tryd.func12, Tryd.ntmps12
  go_wp2_with fail
  refine HI.out.mono ?_
  rintro e w1 ⟨rfl, q, rfl⟩
  go_wp2_with fail
  go_ret
  exact ⟨rfl, q, rfl⟩
end Go.Proofs.YtlpmndljjdljmaaDoor.By
