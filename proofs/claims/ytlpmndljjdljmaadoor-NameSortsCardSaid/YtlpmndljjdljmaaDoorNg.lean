/-
  WALKS: the closure of name.Sort, slices.IndexFunc and slices.DeleteFunc with it: the names of a row of the call's own stay, in their order.
-/
import Derived.Test.YtlpmndljjdljmaaDoorNf
import Derived.Laws.OwnMore
namespace Go.Proofs.YtlpmndljjdljmaaDoor.By
open Go.RowKit
open Mem Nam

theorem check_all (s : ByteArray) (w : World) :
    Calls Tryd.prog 8 #[.string s] w fun e w' => e = .returned (.int .i64 (checkV s.data.toList)) ∧ Below w.heap.size w w' := by
  by_cases h : s.size ≤ 1000
  · exact check_any s w h
  · have hd : decide (24 < (s.size : Int)) = true := by simp; omega
    have HE := Lib.hid (show checkV s.data.toList = 6 by unfold checkV; rw [if_pos (by simp; omega)])
    rw [HE.out]
    clear h
    go_enter Tryd.func8, Tryd.ntmps8
    go_wp2
    go_ret
    exact ⟨rfl, Below.refl _ _⟩

/-- Is it no name? -/
def odd (x : List UInt8) : Bool := !decide (checkV x = 0)

theorem odd_any (x : List UInt8) (w : World) (t : ByteArray) (ht : (⟨x.toArray⟩ : ByteArray) = t) :
    Calls Tryd.prog 24 #[.string t] w fun e w' => e = .returned (.bool (odd x)) ∧ Below w.heap.size w w' := by
  have hc := check_all t w
  rw [show t.data.toList = x by rw [← ht]] at hc
  have hz : (checkV x = 0 ∧ odd x = false) ∨ ((checkV x == 0) = false ∧ odd x = true) := by
    unfold odd
    by_cases h : checkV x = 0
    · exact .inl ⟨h, by simp [h]⟩
    · exact .inr ⟨by simpa using h, by simp [h]⟩
  generalize checkV x = k at hc hz
  have HC := Lib.hid hc
  clear hc ht
  rcases hz with ⟨rfl, ho⟩ | ⟨hk, ho⟩
  all_goals
    rw [ho]
    clear ho
    go_enter Tryd.func24, Tryd.ntmps24
    go_wp2_with fail
    refine HC.out.mono ?_
    rintro e w1 ⟨rfl, hb⟩
    go_wp2_with fail
    go_ret
    exact ⟨ret_bool (by first | rfl | (unfold bne; rw [hk]; rfl)), hb⟩

/-- The first place of a text that is no name, or -1. -/
def oddFrom : Nat → List (List UInt8) → Int
  | _, [] => -1
  | k, y :: l => if odd y then k else oddFrom (k + 1) l

theorem odd_past (a b : List (List UInt8)) : ∀ p : Nat, (∀ x ∈ a, odd x = false) → oddFrom p (a ++ b) = oddFrom (p + a.length) b := by
  induction a with
  | nil => intro p _; rfl
  | cons y a ih =>
    intro p h
    rw [List.cons_append, oddFrom, if_neg (by rw [h y List.mem_cons_self]; decide), ih _ fun x hx => h x (List.mem_cons_of_mem _ hx)]
    congr 1
    simp; omega

set_option maxHeartbeats 1000000 in
theorem ifunc_any (w : World) (B : Nat) (v : Value) (l : List (List UInt8)) (h : SlV w B v (strs l)) (hB : B ≤ w.heap.size) (hl : l.length ≤ 1000000) :
    Calls Tryd.prog 30 #[v, .func (.func 24) #[] #[]] w fun e w' => (∃ i : Int, e = .returned (.int .i64 i) ∧ i = oddFrom 0 l) ∧ Below w.heap.size w w' := by
  have hv := h.form
  rw [strs_length] at hv
  obtain ⟨A, c, rfl⟩ := hv
  have HC := Lib.hid (show ∀ j (hj : j < l.length), ∃ ad, A = some ad ∧ l.length ≤ c ∧ ad.block < w.heap.size ∧ w.cell? (ad.add j) = some (.string ⟨l[j].toArray⟩) from fun j hj => by
    rcases h.inv with ⟨_, h0, _⟩ | ⟨ad, e, _, h2, _, hr⟩
    · omega
    · have := hr j (.string ⟨l[j].toArray⟩) (by simp [strs, hj]); exact ⟨ad, e, h2, by omega, this.2⟩)
  clear h
  obtain ⟨n, hn⟩ : ∃ n, l.length = n := ⟨_, rfl⟩
  have HN := Lib.hid hn
  rw [hn] at hl ⊢
  clear hn hB
  go_enter Tryd.func30, Tryd.ntmps30
  go_wp2_with fail
  go_loopw [8] (fun i wr => ∃ k : Nat, k ≤ n ∧ i = .int .i64 k ∧ Hid (∀ x ∈ l.take k, odd x = false) ∧ Hid (Below w.heap.size w wr)) (fun i _ => n - (intOf i).toNat)
  case atStart => exact ⟨0, by omega, rfl, Lib.hid (by simp), Lib.hid (Below.refl _ _)⟩
  case round =>
    obtain ⟨k, hk, rfl, HNI, HB⟩ := hrel
    by_cases hlt : k < n
    · have hkl : k < l.length := by rw [HN.out]; exact hlt
      obtain ⟨ad, rfl, hnc, hbl, hx0⟩ := HC.out k hkl
      have hx := (HB.out.cell (p := ad.add k) (by rw [add_block]; exact hbl)).trans hx0
      rw [HN.out] at hnc
      clear hx0
      have HF := Lib.hid (show odd l[k] = true → oddFrom 0 l = k from fun ho => by
        have e : l = l.take k ++ l[k] :: l.drop (k + 1) := by simp
        rw [e, odd_past _ _ 0 HNI.out, oddFrom, if_pos ho]
        simp [Nat.min_eq_left (Nat.le_of_lt hkl)])
      have HG := Lib.hid (show odd l[k] = false → ∀ x ∈ l.take (k + 1), odd x = false from fun ho x hxm => by
        rw [List.take_succ_eq_append_getElem hkl, List.mem_append] at hxm
        rcases hxm with hxm | hxm
        · exact HNI.out x hxm
        · rw [List.mem_singleton.1 hxm]; exact ho)
      obtain ⟨t, ht⟩ : ∃ t : ByteArray, (⟨l[k].toArray⟩ : ByteArray) = t := ⟨_, rfl⟩
      have HP := Lib.hid (odd_any l[k] wr t ht)
      rw [ht] at hx
      generalize odd l[k] = b at HP HF HG
      clear ht hkl HNI
      cases b
      · have HN2 := Lib.hid (HG.out rfl)
        go_wp2_with fail
        refine HP.out.mono ?_
        rintro e w2 ⟨rfl, hb2⟩
        have HB2 := Lib.hid (HB.out.trans (hb2.mono HB.out.size))
        clear hb2
        go_wp2_with fail
        go_roundw
        case rel => exact ⟨k + 1, by omega, by go_num, HN2, HB2⟩
        case measure => simp [intOf]; omega
      · have HI := Lib.hid (HF.out rfl)
        go_wp2_with fail
        refine HP.out.mono ?_
        rintro e w2 ⟨rfl, hb2⟩
        have HB2 := Lib.hid (HB.out.trans (hb2.mono HB.out.size))
        clear hb2
        go_wp2_with fail
        go_ret
        exact ⟨⟨_, rfl, HI.out.symm⟩, HB2.out⟩
    · have HF := Lib.hid (show oddFrom 0 l = -1 by
        have := odd_past l [] 0 (by have := HNI.out; rwa [List.take_of_length_le (by rw [HN.out]; omega)] at this)
        rw [List.append_nil] at this
        exact this)
      go_wp2_with fail
      go_ret
      exact ⟨⟨_, rfl, HF.out.symm⟩, HB.out⟩
end Go.Proofs.YtlpmndljjdljmaaDoor.By
