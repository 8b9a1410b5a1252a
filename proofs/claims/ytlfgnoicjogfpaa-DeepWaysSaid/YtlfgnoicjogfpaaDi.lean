/-
  WALKS of layer 12: Near, bounded, ownOf, isMember, dearest, below.
-/
import Derived.Test.YtlfgnoicjogfpaaDe
import Derived.Test.YtlfgnoicjogfpaaDm
namespace Go.Proofs.Ytlfgnoicjogfpaa.By
open Go.RowKit
open Mem Gm Rf Dp

def nearV (n lo hi : Int) : Int := if n < lo then lo else if hi < n then hi else n
def bndV (n : Int) : Int := nearV n 0 1048576
theorem bnd_ok (n : Int) : 0 ≤ bndV n ∧ bndV n ≤ 1048576 := by
  unfold bndV nearV
  split
  · omega
  · split <;> omega

theorem near_any (n lo hi : Int) (w : World) : Calls Try.prog 71 #[.int .i64 n, .int .i64 lo, .int .i64 hi] w fun e w' => e = .returned (.int .i64 (nearV n lo hi)) ∧ w = w' := by
  unfold nearV
  by_cases h1 : n < lo
  · rw [if_pos h1]
    go_enter Try.func71, Try.ntmps71
    go_wp2
    go_ret
    exact ⟨rfl, rfl⟩
  · rw [if_neg h1]
    by_cases h2 : hi < n
    · rw [if_pos h2]
      go_enter Try.func71, Try.ntmps71
      go_wp2
      go_ret
      exact ⟨rfl, rfl⟩
    · rw [if_neg h2]
      go_enter Try.func71, Try.ntmps71
      go_wp2
      go_ret
      exact ⟨rfl, rfl⟩
theorem rnear_any (n lo hi : Int) (w : World) : Calls Try.prog 121 #[.int .i64 n, .int .i64 lo, .int .i64 hi] w fun e w' => e = .returned (.int .i64 (nearV n lo hi)) ∧ w = w' := by
  unfold nearV
  by_cases h1 : n < lo
  · rw [if_pos h1]
    go_enter Try.func121, Try.ntmps121
    go_wp2
    go_ret
    exact ⟨rfl, rfl⟩
  · rw [if_neg h1]
    by_cases h2 : hi < n
    · rw [if_pos h2]
      go_enter Try.func121, Try.ntmps121
      go_wp2
      go_ret
      exact ⟨rfl, rfl⟩
    · rw [if_neg h2]
      go_enter Try.func121, Try.ntmps121
      go_wp2
      go_ret
      exact ⟨rfl, rfl⟩
theorem bounded_any (n : Int) (w : World) : Calls Try.prog 68 #[.int .i64 n] w fun e w' => e = .returned (.int .i64 (bndV n)) ∧ w = w' := by
  have HC := Lib.hid (near_any n 0 1048576 w)
  rw [show nearV n 0 1048576 = bndV n from rfl] at HC
  generalize bndV n = v at HC ⊢
  go_enter Try.func68, Try.ntmps68
  go_wp2_with (go_at_call 71; refine HC.out.mono ?_; rintro e w' ⟨rfl, rfl⟩)
  go_ret
  exact ⟨rfl, rfl⟩

theorem IW.at_ {w : World} {A : Option Addr} {c n : Nat} {l : List Int} (h : IW w (.slice A n c) l) (hn : l.length = n) {j : Nat} (hj : j < n) : ∃ ad, A = some ad ∧ w.cell? (ad.add j) = some (.int .i64 (el l j)) := by
  subst hn
  rcases (show SlV w w.heap.size (.slice A l.length c) (ints l) from h).inv with ⟨_, h4, _⟩ | ⟨ad, e, _, _, _, hr⟩
  · omega
  · exact ⟨ad, e, (hr j _ (ints_at hj)).2⟩

/-- A member's own depth. -/
def ownV (own : List Int) (p : Nat) : Int := if p < own.length then bndV (el own p) else 0
theorem own_ok (own : List Int) (p : Nat) : 0 ≤ ownV own p ∧ ownV own p ≤ 1048576 := by
  unfold ownV; split
  · exact bnd_ok _
  · omega
theorem ownOf_any (w : World) (A : Option Addr) (c n p : Nat) (own : List Int) (hn : own.length = n) (h : IW w (.slice A n c) own) :
    Calls Try.prog 72 #[.slice A n c, .int .i64 (p : Int)] w fun e w' => e = .returned (.int .i64 (ownV own p)) ∧ w = w' := by
  unfold ownV
  rw [hn]
  by_cases hp : p < n
  · rw [if_pos hp]
    obtain ⟨ad, rfl, hc⟩ := h.at_ hn hp
    have HC := Lib.hid (bounded_any (el own p) w)
    generalize bndV (el own p) = v at HC ⊢
    generalize el own p = x at hc HC
    have h1 : ¬ (n : Int) ≤ (p : Int) := by omega
    have h2 : (p : Int) < (n : Int) := by omega
    have h3 : (0 : Int) ≤ (p : Int) := by omega
    clear h hn
    go_enter Try.func72, Try.ntmps72
    go_wp2_with (go_at_call 68; refine HC.out.mono ?_; rintro e w' ⟨rfl, rfl⟩)
    go_ret
    exact ⟨rfl, rfl⟩
  · rw [if_neg hp]
    have h1 : (n : Int) ≤ (p : Int) := by omega
    clear h hn
    go_enter Try.func72, Try.ntmps72
    go_wp2
    go_ret
    exact ⟨rfl, rfl⟩
theorem isMem_any (w : World) (A : Option Addr) (c n p : Nat) (ins : List Bool) (hn : ins.length = n) (h : LW w (.slice A n c) ins) :
    Calls Try.prog 75 #[.slice A n c, .int .i64 (p : Int)] w fun e w' => e = .returned (.bool (memV ins p)) ∧ w = w' := by
  by_cases hp : p < n
  · obtain ⟨ad, rfl, hc⟩ := bl_cell hn (show SlV w w.heap.size (.slice A n c) (bls ins) from h) hp
    generalize memV ins p = b at hc ⊢
    have h2 : (p : Int) < (n : Int) := by omega
    have h3 : (0 : Int) ≤ (p : Int) := by omega
    clear h hn
    go_enter Try.func75, Try.ntmps75
    go_wp2
    go_ret
    exact ⟨rfl, rfl⟩
  · rw [memV_far (by omega)]
    have h1 : ¬ (p : Int) < (n : Int) := by omega
    clear h hn
    go_enter Try.func75, Try.ntmps75
    go_wp2
    go_ret
    exact ⟨rfl, rfl⟩

theorem el_coI {l : List Nat} {j e : Nat} (h : l[j]? = some e) : el (coI l) j = (e : Int) := by
  unfold el coI
  rw [List.getD_eq_getElem?_getD, List.getElem?_map, h]; rfl

set_option maxHeartbeats 2000000 in
theorem dearest_any (w : World) (A A2 : Option Addr) (c c2 m n : Nat) (ends : List Nat) (D : List Int) (hm : ends.length = m) (hn : D.length = n) (h : IW w (.slice A m c) (coI ends)) (hD : IW w (.slice A2 n c2) D) (hlt : ∀ e ∈ ends, e < n) (x : Nat) (hx : bestO (fun p => el D p) ends = some x) (hm9 : m ≤ 1000000) :
    Calls Try.prog 76 #[.slice A m c, .slice A2 n c2] w fun e w' => e = .returned (.int .i64 (x : Int)) ∧ ∃ q, w' = w.drewN q := by
  obtain ⟨e0, rest, rfl⟩ : ∃ e0 rest, ends = e0 :: rest := by
    cases ends with
    | nil => cases hx
    | cons a l => exact ⟨a, l, rfl⟩
  have hx0 : best (fun p => el D p) e0 (e0 :: rest) = x := by
    have h1 : best (fun p => el D p) e0 rest = x := by injection hx
    show best (fun p => el D p) (if el D e0 < el D e0 then e0 else e0) rest = x
    rw [if_neg (by omega)]; exact h1
  have h00 : (e0 :: rest)[0]? = some e0 := rfl
  have he0 : e0 < n := hlt e0 (List.mem_cons_self)
  generalize e0 :: rest = l at *
  have HA := Lib.hid (fun (j s : Nat) (hj : l[j]? = some s) => show ∃ ad, A = some ad ∧ w.cell? (ad.add j) = some (.int .i64 (s : Int)) from by
    obtain ⟨ad, e, hc⟩ := h.at_ (j := j) (by rw [coI, List.length_map]; exact hm) (by have := (List.getElem?_eq_some_iff.1 hj).1; omega)
    rw [el_coI hj] at hc
    exact ⟨ad, e, hc⟩)
  have HD := Lib.hid (fun (j : Nat) (hj : j < n) => hD.at_ hn hj)
  have HM := Lib.hid hm
  have HX := Lib.hid hx0
  have HL := Lib.hid hlt
  obtain ⟨ad, rfl, hc0⟩ := HA.out 0 e0 h00
  have hm1 : 0 < m := by have := (List.getElem?_eq_some_iff.1 h00).1; omega
  have hmI : (0 : Int) < (m : Int) := by omega
  have hc00 : w.cell? ad = some (.int .i64 (e0 : Int)) := hc0
  clear hx hx0 h00 hm h hD hn hlt
  go_enter Try.func76, Try.ntmps76
  go_wp2_with fail
  go_loopw [5, 13] (fun wv i wr => ∃ k q b : Nat, k ≤ m ∧ i = .int .i64 k ∧ wv = .int .i64 (b : Int) ∧ b < n ∧ b = best (fun p => el D p) e0 (l.take k) ∧ wr = w.drewN q) (fun _ i _ => m - (intOf i).toNat)
  case atStart => exact ⟨0, 0, e0, Nat.zero_le _, rfl, rfl, he0, rfl, rfl⟩
  case round =>
    obtain ⟨k, q, b, hk, rfl, rfl, hbn, hb, rfl⟩ := hrel
    by_cases hlt : k < m
    · have HLT := Lib.hid hlt
      have HB := Lib.hid hb
      have hkl : k < l.length := by rw [HM.out]; exact hlt
      obtain ⟨s, hs⟩ : ∃ s, l[k]? = some s := ⟨_, List.getElem?_eq_getElem hkl⟩
      obtain ⟨ad', e', hcs⟩ := HA.out k s hs
      injection e' with e'
      subst e'
      have hsn : s < n := HL.out s (List.mem_of_getElem? hs)
      obtain ⟨ad2, rfl, hds⟩ := HD.out s hsn
      obtain ⟨ad3, e3, hdb⟩ := HD.out b hbn
      injection e3 with e3
      subst e3
      have hnx : best (fun p => el D p) e0 (l.take (k + 1)) = if el D b < el D s then s else b := by
        have h9 := (List.getElem?_eq_some_iff.1 hs).2
        rw [List.take_succ_eq_append_getElem hkl, best_snoc, ← hb, h9]
      obtain ⟨ds, hds'⟩ : ∃ ds, el D s = ds := ⟨_, rfl⟩
      obtain ⟨db, hdb'⟩ : ∃ db, el D b = db := ⟨_, rfl⟩
      rw [hds'] at hds hnx
      rw [hdb'] at hdb hnx
      have HNX := Lib.hid hnx
      have hkI : (k : Int) < (m : Int) := by omega
      have hk0 : (0 : Int) ≤ (k : Int) := by omega
      have hsI : (s : Int) < (n : Int) := by omega
      have hs0 : (0 : Int) ≤ (s : Int) := by omega
      have hbI : (b : Int) < (n : Int) := by omega
      have hb0 : (0 : Int) ≤ (b : Int) := by omega
      have HSN := Lib.hid (And.intro hsn hbn)
      clear hnx hb hs hk hds' hdb' hkl hsn hbn
      by_cases hgt : db < ds
      · go_wp2_with fail
        go_quiet (fail)
        go_wp2_with fail
        go_roundw
        case rel => exact ⟨k + 1, q + nq, s, by have := HLT.out; omega, by go_num, rfl, HSN.out.1, by rw [HNX.out, if_pos hgt], by first | rfl | exact World.drewN_drewN ..⟩
        case measure => have := HLT.out; simp [intOf]; omega
      · go_wp2_with fail
        go_quiet (fail)
        go_wp2_with fail
        go_roundw
        case rel => exact ⟨k + 1, q + nq, b, by have := HLT.out; omega, by go_num, rfl, HSN.out.2, by rw [HNX.out, if_neg (by omega)], by first | rfl | exact World.drewN_drewN ..⟩
        case measure => have := HLT.out; simp [intOf]; omega
    · obtain rfl : k = m := by omega
      rw [List.take_of_length_le (by rw [HM.out]; exact Nat.le_refl _), HX.out] at hb
      subst hb
      go_wp2_with fail
      go_ret
      exact ⟨rfl, q, rfl⟩

theorem mx_none (st : Int) (d : Nat → Int) : mx st d [] = 0 := rfl
set_option maxHeartbeats 1000000 in
theorem below_any (w : World) (A A2 : Option Addr) (c c2 m n : Nat) (ends : List Nat) (D : List Int) (step : Int) (hm : ends.length = m) (hn : D.length = n) (h : IW w (.slice A m c) (coI ends)) (hD : IW w (.slice A2 n c2) D) (hlt : ∀ e ∈ ends, e < n) (hm9 : m ≤ 1000000) (h0 : ∀ j, j < n → 0 ≤ el D j ∧ el D j ≤ cap) :
    Calls Try.prog 73 #[.slice A m c, .slice A2 n c2, .int .i64 step] w fun e w' => e = .returned (.int .i64 (mx (bndV step) (fun p => el D p) ends)) ∧ ∃ q, w' = w.drewN q := by
  cases hbo : bestO (fun p => el D p) ends with
  | none =>
    have he : ends = [] := bestO_none.1 hbo
    subst he
    have hm0 : m = 0 := by rw [← hm]; rfl
    subst hm0
    clear h hD hn hm
    rw [mx_none]
    go_enter Try.func73, Try.ntmps73
    go_wp2
    go_ret
    exact ⟨rfl, 0, rfl⟩
  | some x =>
    have hb := bnd_ok step
    have hmem := (bestO_mem hbo).1
    have hx := hlt x hmem
    have hd := h0 x hx
    have hmx := mx_best (st := bndV step) hbo (by omega)
    rw [hmx]
    have HB := Lib.hid (bounded_any step w)
    have HDE := Lib.hid (dearest_any w A A2 c c2 m n ends D hm hn h hD hlt x hbo hm9)
    obtain ⟨ad, rfl, hc⟩ := hD.at_ hn hx
    have hmp : 0 < m := by rw [← hm]; exact List.length_pos_of_mem hmem
    have hm0 : ¬ (m : Int) = 0 := by omega
    have hm1 : ((m : Int) == 0) = false := by rw [beq_eq_false_iff_ne]; exact hm0
    obtain ⟨dv, hdv⟩ : ∃ dv, el D x = dv := ⟨_, rfl⟩
    rw [hdv] at hc hd ⊢
    generalize bndV step = st at hb HB ⊢
    have hxI : (x : Int) < (n : Int) := by omega
    have hx0 : (0 : Int) ≤ (x : Int) := by omega
    unfold cap at hd
    have hw : IntKind.i64.wrap (st + dv) = st + dv := IntWalk.i64_in _ ⟨by omega, by omega⟩
    have hcq : ∀ q, (w.drewN q).cell? (ad.add x) = some (.int .i64 dv) := fun q => hc
    clear hmx hdv h hD hn hm hbo hmem hmp h0
    go_enter Try.func73, Try.ntmps73
    go_wp2_with (first
      | (go_at_call 68; refine HB.out.mono ?_; rintro e w' ⟨rfl, rfl⟩)
      | (go_at_call 76; refine HDE.out.mono ?_; rintro e w' ⟨rfl, q, rfl⟩))
    go_ret
    exact ⟨rfl, _, rfl⟩

theorem fromEnd_any (A A2 : Option Addr) (n c n2 c2 : Nat) (w : World) : Calls Try.prog 69 #[.slice A n c, .slice A2 n2 c2] w fun e w' =>
    e = .returned (.func (.func 120) #[] #[.pointer (some ⟨w.heap.size, 0, none⟩), .pointer (some ⟨w.heap.size + 1, 0, none⟩)]) ∧ w' = (w.alloc (.cells #[.slice A n c] 26)).alloc (.cells #[.slice A2 n2 c2] 22) := by
  go_enter Try.func69, Try.ntmps69
  go_wp2
  go_ret
  exact ⟨rfl, rfl⟩
end Go.Proofs.Ytlfgnoicjogfpaa.By
