/-
  WALKS: the reader's numbers (functions 41, 40, 27, 28): what they answer, and what becomes of the reader's own block.
-/
import Derived.Test.YtbknmapkdjmcjaaGreatDoorRd
namespace Go.Proofs.YtbknmapkdjmcjaaGreatDoor.By
open Go.ChangeShapes Go.WideShapes Go.ChangeAt Go.RowKit
open Mem

theorem width_yes (k : Int) (h1 : 1 ≤ k) (h8 : k ≤ 8) (w : World) : Calls Tryz.prog 226 #[.int .i64 k] w fun e w' => e = .returned (.bool true) ∧ w = w' := by
  go_enter Tryz.func226, Tryz.ntmps226
  go_wp2
  go_ret
  exact ⟨by simp, rfl⟩

theorem width_no (k : Int) (h : k < 1 ∨ 8 < k) (w : World) : Calls Tryz.prog 226 #[.int .i64 k] w fun e w' => e = .returned (.bool false) ∧ w = w' := by
  rcases h with h | h
  · have d : decide (1 ≤ k) = false := by simp; omega
    go_enter Tryz.func226, Tryz.ntmps226
    go_wp2
    go_ret
    exact ⟨rfl, rfl⟩
  · have d1 : 1 ≤ k := by omega
    have d : decide (k ≤ 8) = false := by simp; omega
    go_enter Tryz.func226, Tryz.ntmps226
    go_wp2
    go_ret
    exact ⟨rfl, rfl⟩

theorem width_some (k : Int) : ∃ b, ∀ w : World, Calls Tryz.prog 226 #[.int .i64 k] w fun e w' => e = .returned (.bool b) ∧ w = w' := by
  by_cases h : 1 ≤ k ∧ k ≤ 8
  · exact ⟨true, width_yes k h.1 h.2⟩
  · exact ⟨false, width_no k (by omega)⟩

theorem n41_nil (k : Int) (w : World) : Calls Tryz.prog 249 #[.pointer none, .int .i64 k] w fun e w' => e = .returned (.slice none 0 0) ∧ w = w' := by
  have H := Lib.hid (take_nil w)
  obtain ⟨b, hb⟩ := width_some k
  have HB := Lib.hid hb
  clear hb
  go_enter Tryz.func249, Tryz.ntmps249
  go_wp2_with (first | (go_at_call 296; refine (H.out _ _ _).mono ?_; rintro e w' ⟨rfl, rfl⟩) | (go_at_call 226; refine (HB.out _).mono ?_; rintro e w' ⟨rfl, rfl⟩))
  go_ret
  exact ⟨rfl, rfl⟩

theorem n41_bad (w : World) (g : Nat) (A : Option Addr) (c : Nat) (l : List UInt8) (p : Nat) (h : Rdr w g A c l p false) (k : Int) :
    Calls Tryz.prog 249 #[.pointer (some ⟨g, 0, none⟩), .int .i64 k] w fun e w' => e = .returned (.slice none 0 0) ∧ w = w' := by
  have H := Lib.hid (take_bad w g A c l p h)
  obtain ⟨b, hb⟩ := width_some k
  have HB := Lib.hid hb
  clear hb h
  go_enter Tryz.func249, Tryz.ntmps249
  go_wp2_with (first | (go_at_call 296; refine (H.out _ _ _).mono ?_; rintro e w' ⟨rfl, rfl⟩) | (go_at_call 226; refine (HB.out _).mono ?_; rintro e w' ⟨rfl, rfl⟩))
  go_ret
  exact ⟨rfl, rfl⟩

theorem n41_not (w : World) (g : Nat) (A : Option Addr) (c : Nat) (l : List UInt8) (p : Nat) (h : Rdr w g A c l p true) (k : Int) (hk : k < 1 ∨ 8 < k) :
    Calls Tryz.prog 249 #[.pointer (some ⟨g, 0, none⟩), .int .i64 k] w fun e w' => e = .returned (.slice none 0 0) ∧ w.setCell ⟨g, 2, none⟩ (.bool false) = w' := by
  have H := Lib.hid (take_not w g A c l p h)
  have HB := Lib.hid (width_no k hk)
  clear hk h
  go_enter Tryz.func249, Tryz.ntmps249
  go_wp2_with (first | (go_at_call 296; refine (H.out _ _).mono ?_; rintro e w' ⟨rfl, rfl⟩) | (go_at_call 226; refine (HB.out _).mono ?_; rintro e w' ⟨rfl, rfl⟩))
  go_ret
  exact ⟨rfl, rfl⟩

theorem n41_short (w : World) (g : Nat) (A : Option Addr) (c : Nat) (l : List UInt8) (p : Nat) (h : Rdr w g A c l p true) (k : Nat) (h1 : 1 ≤ (k : Int)) (h8 : (k : Int) ≤ 8) (hs : (l.length : Int) - p < k) :
    Calls Tryz.prog 249 #[.pointer (some ⟨g, 0, none⟩), .int .i64 k] w fun e w' => e = .returned (.slice none 0 0) ∧ ∃ q, (w.setCell ⟨g, 2, none⟩ (.bool false)).drewN q = w' := by
  have H := Lib.hid (take_short w g A c l p h 0 k (by omega) (by omega) (by omega))
  have HB := Lib.hid (width_yes k h1 h8)
  clear h
  go_enter Tryz.func249, Tryz.ntmps249
  go_wp2_with (first | (go_at_call 296; refine H.out.mono ?_; rintro e w' ⟨rfl, q, rfl⟩) | (go_at_call 226; refine (HB.out _).mono ?_; rintro e w' ⟨rfl, rfl⟩))
  go_ret
  exact ⟨rfl, _, rfl⟩

theorem n41_ok (w : World) (g : Nat) (A : Option Addr) (c : Nat) (l : List UInt8) (p : Nat) (h : Rdr w g A c l p true) (k : Nat) (h1 : 1 ≤ (k : Int)) (h8 : (k : Int) ≤ 8) (hs : (k : Int) ≤ (l.length : Int) - p) :
    Calls Tryz.prog 249 #[.pointer (some ⟨g, 0, none⟩), .int .i64 k] w (Took w g p k k (u8s ((l.drop p).take k))) := by
  have ht := take_ok w g A c l p h 0 k (by omega) (by omega) (by omega) (by omega)
  rw [Nat.zero_add, Nat.add_zero] at ht
  have H := Lib.hid ht
  have HB := Lib.hid (width_yes k h1 h8)
  clear h ht
  go_enter Tryz.func249, Tryz.ntmps249
  go_wp2_with (first | (go_at_call 296; refine H.out.mono ?_; rintro e w' ⟨ad, cap, q, rfl, hn, hm, hr, rfl⟩) | (go_at_call 226; refine (HB.out _).mono ?_; rintro e w' ⟨rfl, rfl⟩))
  go_ret
  exact ⟨ad, cap, q, rfl, hn, hm, hr, rfl⟩

/-- A number, and bytes behind it. -/
def acc : Int → List UInt8 → Int
  | n, [] => n
  | n, x :: r => acc (wrap64 (n * 256) + x.toNat) r

theorem num_bad (w : World) (k : Int) (fn : Fn) (r : Value) (h : Calls Tryz.prog 249 #[r, .int .i64 k] w fun e w' => e = .returned (.slice none 0 0) ∧ w = w') :
    Calls Tryz.prog 248 #[.func (.func 249) #[r] #[], .int .i64 k, .func fn #[] #[]] w fun e w' => e = .returned (.int .i64 0) ∧ w = w' := by
  have H := Lib.hid h
  clear h
  go_enter Tryz.func248, Tryz.ntmps248
  go_wp2_with (go_at_call 249; refine H.out.mono ?_; rintro e w' ⟨rfl, rfl⟩)
  go_ret
  exact ⟨rfl, rfl⟩

theorem num_not (w w1 : World) (k : Int) (fn : Fn) (r : Value) (h : Calls Tryz.prog 249 #[r, .int .i64 k] w fun e w' => e = .returned (.slice none 0 0) ∧ ∃ q, w1.drewN q = w') :
    Calls Tryz.prog 248 #[.func (.func 249) #[r] #[], .int .i64 k, .func fn #[] #[]] w fun e w' => e = .returned (.int .i64 0) ∧ ∃ q, w1.drewN q = w' := by
  have H := Lib.hid h
  clear h
  go_enter Tryz.func248, Tryz.ntmps248
  go_wp2_with (go_at_call 249; refine H.out.mono ?_; rintro e w' ⟨rfl, q, rfl⟩)
  go_ret
  exact ⟨rfl, _, rfl⟩

theorem head_un (q : Int) (h : 0 ≤ q ∧ q < 256) (w : World) : Calls Tryz.prog 250 #[.int .u8 q] w fun e w' => e = .returned (.int .i64 q) ∧ w = w' := by
  obtain ⟨h0, h1⟩ := h
  go_enter Tryz.func250, Tryz.ntmps250
  go_wp2
  go_ret
  exact ⟨rfl, rfl⟩

/-- The first byte, and with it the sign. -/
def sgn (q : Int) : Int := if q < 128 then q else q - 256

theorem head_si (q : Int) (h : 0 ≤ q ∧ q < 256) (w : World) : Calls Tryz.prog 304 #[.int .u8 q] w fun e w' => e = .returned (.int .i64 (sgn q)) ∧ w = w' := by
  obtain ⟨h0, h1⟩ := h
  go_enter Tryz.func304, Tryz.ntmps304
  go_wp2
  go_ret
  refine ⟨?_, rfl⟩
  have e : wrap64 (IntKind.i8.wrap q) = sgn q := by
    unfold sgn wrap64
    simp only [IntKind.wrap, IntKind.bits, IntKind.signed]
    simp
    split <;> omega
  rw [← e]; rfl

/-- The low byte of a number that was shifted up by 8 is free: 'or' adds. -/
theorem or_low (m : Int) (y : Nat) (hy : y < 256) : bits .or .i64 (wrap64 (m * 256)) (y : Int) = wrap64 (m * 256) + y := by
  obtain ⟨t, ht⟩ : ∃ t : Nat, (wrap64 (m * 256) % 18446744073709551616).toNat = 256 * t := by
    refine ⟨((m * 256) % 18446744073709551616).toNat / 256, ?_⟩
    unfold wrap64
    omega
  have h1 : (BitVec.ofInt 64 (wrap64 (m * 256))).toNat = 256 * t := by
    rw [BitVec.toNat_ofInt, ← ht]; rfl
  have h2 : (BitVec.ofInt 64 (y : Int)).toNat = y := by
    rw [BitVec.ofInt_natCast, BitVec.toNat_ofNat]; exact Nat.mod_eq_of_lt (by omega)
  show IntKind.i64.wrap ((BitVec.ofInt 64 (wrap64 (m * 256)) ||| BitVec.ofInt 64 (y : Int)).toNat : Int) = _
  have h3 : 256 * t ||| y = 256 * t + y := (Nat.two_pow_add_eq_or_of_lt (i := 8) (by omega) t).symm
  rw [BitVec.toNat_or, h1, h2, h3, IntKind.wrap_i64]
  unfold wrap64 at ht ⊢
  omega

theorem acc_next (n : Int) (r : List UInt8) (j : Nat) (hj : j < r.length) : ∀ (m : Int), m = acc n (r.take j) → wrap64 (m * 256) + (r[j].toNat : Int) = acc n (r.take (j + 1)) := by
  induction r generalizing n j with
  | nil => simp at hj
  | cons y r ih =>
    intro m hm
    cases j with
    | zero => simp [acc] at hm ⊢; rw [hm]
    | succ j =>
      simp only [List.take_succ_cons, acc, List.getElem_cons_succ] at hm ⊢
      exact ih _ j (by simpa using hj) m hm

set_option maxHeartbeats 1000000 in
theorem num_ok42 (w : World) (g p : Nat) (x : UInt8) (r : List UInt8) (k : Nat) (hk : k = r.length + 1) (h8 : k ≤ 8) (v : Value) (h : Calls Tryz.prog 249 #[v, .int .i64 k] w (Took w g p k k (u8s (x :: r)))) :
    Calls Tryz.prog 248 #[.func (.func 249) #[v] #[], .int .i64 k, .func (.func 250) #[] #[]] w fun e w' => e = .returned (.int .i64 (acc (x.toNat : Int) r)) ∧ ∃ q, (w.setCell ⟨g, 1, none⟩ (.int .i64 (p + k : Nat))).drewN q = w' := by
  have H := Lib.hid h
  clear h
  have hk0 : ((k : Int) == 0) = false := by simp; omega
  have hk1 : 1 ≤ k := by omega
  have HK := Lib.hid hk
  clear hk
  obtain ⟨z, hz⟩ : ∃ z, (x.toNat : Int) = z := ⟨_, rfl⟩
  have HH := Lib.hid (show ∀ w, Calls Tryz.prog 250 #[.int .u8 x.toNat] w fun e w' => e = .returned (.int .i64 z) ∧ w = w' by rw [← hz]; exact head_un x.toNat (by have := x.toNat_lt; omega))
  rw [hz]
  clear hz
  go_enter Tryz.func248, Tryz.ntmps248
  go_wp2_with fail
  refine H.out.mono ?_
  rintro e w1 ⟨ad, cap, q, rfl, hn, hm, hr, hw⟩
  have hr1 : Row w1 g ad (u8s (x :: r)) := by
    rw [← hw]
    exact hr.keep fun b hb => by
      rw [World.cell?_drewN]
      exact World.cell?_setCell_other w ⟨g, 1, none⟩ b _ (fun e => by subst e; simp at hb)
  have HW := Lib.hid hw
  clear hw hr
  unfold maxLen at hm
  have h0 := (hr1 0 (.int .u8 (x.toNat : Int)) (by simp [u8s])).2
  rw [show ad.add 0 = ad from rfl] at h0
  by_cases hc1 : cap = 1
  · obtain rfl : r = [] := List.eq_nil_of_length_eq_zero (by have := HK.out; omega)
    subst hc1
    obtain rfl : k = 1 := by simpa using HK.out
    clear HK h8 hn hr1
    go_wp2_with fail
    refine (HH.out _).mono ?_
    rintro e w2 ⟨rfl, rfl⟩
    go_wp2_with fail
    go_rounds 1
    all_goals go_ret
    all_goals exact ⟨rfl, q, HW.out⟩
  · have hrr := hr1.drop 1
    have HR := Lib.hid (show ∀ j (hj : j < r.length), w1.cell? ⟨ad.block, ad.off + 1 + j, none⟩ = some (.int .u8 (r[j].toNat : Int)) from fun j hj => by
      have h2 := (hrr j (.int .u8 (r[j].toNat : Int)) (by simp [u8s, hj])).2
      rw [show ad.add 1 = ⟨ad.block, ad.off + 1, none⟩ from rfl, Mem.add_plain] at h2
      exact h2)
    clear hr1 hrr
    go_wp2_with fail
    refine (HH.out _).mono ?_
    rintro e w2 ⟨rfl, rfl⟩
    go_wp2_with fail
    go_loop [8, 25] (fun n i => ∃ (j : Nat) (m : Int), j + 1 ≤ k ∧ i = .int .i64 j ∧ n = .int .i64 m ∧ Hid (m = acc z (r.take j))) (fun _ i => k - (intOf i).toNat)
    case atStart => exact ⟨0, z, by omega, rfl, rfl, Lib.hid rfl⟩
    case round =>
      obtain ⟨j, m, hj, rfl, rfl, HM⟩ := hrel
      by_cases hlt : j + 1 < k
      · have hj2 : j < r.length := by have := HK.out; omega
        have hc := HR.out j hj2
        have hx := r[j].toNat_lt
        have HNX := Lib.hid (show bits .or .i64 (wrap64 (m * 256)) (r[j].toNat : Int) = acc z (r.take (j + 1)) by rw [or_low m _ hx]; exact acc_next z r j hj2 m HM.out)
        generalize r[j].toNat = y at hc hx HNX
        clear hj2
        go_wp2_with fail
        go_round
        case rel => exact ⟨j + 1, _, by omega, by go_num, rfl, Lib.hid HNX.out⟩
        case measure => simp [intOf]; omega
      · have HE := Lib.hid (show m = acc z r by rw [HM.out, List.take_of_length_le (by have := HK.out; omega)])
        go_wp2_with fail
        go_ret
        exact ⟨by rw [← HE.out]; rfl, q, HW.out⟩

set_option maxHeartbeats 1000000 in
theorem num_ok43 (w : World) (g p : Nat) (x : UInt8) (r : List UInt8) (k : Nat) (hk : k = r.length + 1) (h8 : k ≤ 8) (v : Value) (h : Calls Tryz.prog 249 #[v, .int .i64 k] w (Took w g p k k (u8s (x :: r)))) :
    Calls Tryz.prog 248 #[.func (.func 249) #[v] #[], .int .i64 k, .func (.func 304) #[] #[]] w fun e w' => e = .returned (.int .i64 (acc (sgn x.toNat) r)) ∧ ∃ q, (w.setCell ⟨g, 1, none⟩ (.int .i64 (p + k : Nat))).drewN q = w' := by
  have H := Lib.hid h
  clear h
  have hk0 : ((k : Int) == 0) = false := by simp; omega
  have hk1 : 1 ≤ k := by omega
  have HK := Lib.hid hk
  clear hk
  obtain ⟨z, hz⟩ : ∃ z, sgn (x.toNat : Int) = z := ⟨_, rfl⟩
  have HH := Lib.hid (show ∀ w, Calls Tryz.prog 304 #[.int .u8 x.toNat] w fun e w' => e = .returned (.int .i64 z) ∧ w = w' by rw [← hz]; exact head_si x.toNat (by have := x.toNat_lt; omega))
  rw [hz]
  clear hz
  go_enter Tryz.func248, Tryz.ntmps248
  go_wp2_with fail
  refine H.out.mono ?_
  rintro e w1 ⟨ad, cap, q, rfl, hn, hm, hr, hw⟩
  have hr1 : Row w1 g ad (u8s (x :: r)) := by
    rw [← hw]
    exact hr.keep fun b hb => by
      rw [World.cell?_drewN]
      exact World.cell?_setCell_other w ⟨g, 1, none⟩ b _ (fun e => by subst e; simp at hb)
  have HW := Lib.hid hw
  clear hw hr
  unfold maxLen at hm
  have h0 := (hr1 0 (.int .u8 (x.toNat : Int)) (by simp [u8s])).2
  rw [show ad.add 0 = ad from rfl] at h0
  by_cases hc1 : cap = 1
  · obtain rfl : r = [] := List.eq_nil_of_length_eq_zero (by have := HK.out; omega)
    subst hc1
    obtain rfl : k = 1 := by simpa using HK.out
    clear HK h8 hn hr1
    go_wp2_with fail
    refine (HH.out _).mono ?_
    rintro e w2 ⟨rfl, rfl⟩
    go_wp2_with fail
    go_rounds 1
    all_goals go_ret
    all_goals exact ⟨rfl, q, HW.out⟩
  · have hrr := hr1.drop 1
    have HR := Lib.hid (show ∀ j (hj : j < r.length), w1.cell? ⟨ad.block, ad.off + 1 + j, none⟩ = some (.int .u8 (r[j].toNat : Int)) from fun j hj => by
      have h2 := (hrr j (.int .u8 (r[j].toNat : Int)) (by simp [u8s, hj])).2
      rw [show ad.add 1 = ⟨ad.block, ad.off + 1, none⟩ from rfl, Mem.add_plain] at h2
      exact h2)
    clear hr1 hrr
    go_wp2_with fail
    refine (HH.out _).mono ?_
    rintro e w2 ⟨rfl, rfl⟩
    go_wp2_with fail
    go_loop [8, 25] (fun n i => ∃ (j : Nat) (m : Int), j + 1 ≤ k ∧ i = .int .i64 j ∧ n = .int .i64 m ∧ Hid (m = acc z (r.take j))) (fun _ i => k - (intOf i).toNat)
    case atStart => exact ⟨0, z, by omega, rfl, rfl, Lib.hid rfl⟩
    case round =>
      obtain ⟨j, m, hj, rfl, rfl, HM⟩ := hrel
      by_cases hlt : j + 1 < k
      · have hj2 : j < r.length := by have := HK.out; omega
        have hc := HR.out j hj2
        have hx := r[j].toNat_lt
        have HNX := Lib.hid (show bits .or .i64 (wrap64 (m * 256)) (r[j].toNat : Int) = acc z (r.take (j + 1)) by rw [or_low m _ hx]; exact acc_next z r j hj2 m HM.out)
        generalize r[j].toNat = y at hc hx HNX
        clear hj2
        go_wp2_with fail
        go_round
        case rel => exact ⟨j + 1, _, by omega, by go_num, rfl, Lib.hid HNX.out⟩
        case measure => simp [intOf]; omega
      · have HE := Lib.hid (show m = acc z r by rw [HM.out, List.take_of_length_le (by have := HK.out; omega)])
        go_wp2_with fail
        go_ret
        exact ⟨by rw [← HE.out]; rfl, q, HW.out⟩


end Go.Proofs.YtbknmapkdjmcjaaGreatDoor.By
