/-
  WALK: the law SumsPieces, of any bytes that came in.
-/
import Derived.Test.YtlpmndljjdljmaaKs
namespace Go.Proofs.Ytlpmndljjdljmaa.By
open Go.ChangeShapes Go.WideShapes Go.ChangeAt Go.RowKit
open Mem Sm

/-- A piece of a row. -/
theorem slv_piece {w : World} {B : Nat} {ad : Addr} {n c : Nat} {l : List UInt8} (h : SlV w B (.slice (some ad) n c) (u8s l)) (lo hi : Nat) (h1 : lo ≤ hi) (h2 : hi ≤ n) : SlV w B (.slice (some (ad.add lo)) (hi - lo) (c - lo)) (u8s ((l.drop lo).take (hi - lo))) := by
  rcases h.inv with ⟨e, _⟩ | ⟨a, e, hn, hc, hm, hr⟩
  · cases e
  · injection e with e
    subst e
    rw [u8s_length] at hn
    have e1 : u8s ((l.drop lo).take (hi - lo)) = ((u8s l).drop lo).take (hi - lo) := by simp [u8s, List.map_take, List.map_drop]
    have hl : (u8s ((l.drop lo).take (hi - lo))).length = hi - lo := by rw [u8s_length, List.length_take, List.length_drop]; omega
    have := SlV.at_ (ad.add lo) (c - lo) (u8s ((l.drop lo).take (hi - lo))) (by rw [hl]; omega) (by omega) (by rw [e1]; exact (hr.drop lo).take _)
    rwa [hl] at this

/-- An empty piece, wherever it lies. -/
theorem slv_none {w : World} {B : Nat} {ad : Addr} {c : Nat} (hm : c ≤ maxLen) : SlV w B (.slice (some ad) 0 c) (u8s []) :=
  .at_ ad c [] (Nat.zero_le _) hm (fun j u hu => by simp at hu)

theorem piece1 {w : World} {B : Nat} {ad : Addr} {n c : Nat} {l : List UInt8} (h : SlV w B (.slice (some ad) n c) (u8s l)) (p : Nat) (hp : p ≤ n) : SlV w B (.slice (some ad) p c) (u8s (l.take p)) := by
  have := slv_piece h 0 p (Nat.zero_le _) hp
  rw [List.drop_zero, Nat.sub_zero, Nat.sub_zero, show ad.add 0 = ad from rfl] at this
  exact this

theorem piece3 {w : World} {B : Nat} {ad : Addr} {n c : Nat} {l : List UInt8} (h : SlV w B (.slice (some ad) n c) (u8s l)) (hn : l.length = n) (q : Nat) (hq : q ≤ n) : SlV w B (.slice (some (ad.add q)) (n - q) (c - q)) (u8s (l.drop q)) := by
  have := slv_piece h q n hq (Nat.le_refl _)
  rwa [List.take_of_length_le (by rw [List.length_drop]; omega)] at this

theorem join2 (l : List UInt8) (p q : Nat) (h : p ≤ q) : l.take p ++ (l.drop p).take (q - p) = l.take q := by
  conv => rhs; rw [show q = p + (q - p) by omega, List.take_add]

theorem pieces_bad (w : World) (n c : Nat) (A : Option Addr) (a1 a2 : Int)
    (h : decide (2000 < (n : Int)) = true ∨ (decide (2000 < (n : Int)) = false ∧ decide (a1 < 0) = true) ∨ (decide (2000 < (n : Int)) = false ∧ decide (a1 < 0) = false ∧ decide ((n : Int) < a1) = true)
      ∨ (decide (2000 < (n : Int)) = false ∧ decide (a1 < 0) = false ∧ decide ((n : Int) < a1) = false ∧ decide (a2 < a1) = true) ∨ (decide (2000 < (n : Int)) = false ∧ decide (a1 < 0) = false ∧ decide ((n : Int) < a1) = false ∧ decide (a2 < a1) = false ∧ decide ((n : Int) < a2) = true)) :
    Calls Try.prog 6 #[.slice A n c, .int .i64 a1, .int .i64 a2] w fun e w' => e = .returned (.bool true) ∧ Below w.heap.size w w' := by
  rcases h with h1 | ⟨h1, h2⟩ | ⟨h1, h2, h3⟩ | ⟨h1, h2, h3, h4⟩ | ⟨h1, h2, h3, h4, h5⟩
  all_goals
    go_enter Try.func6, Try.ntmps6
    go_wp2_with fail
    refine (known_sum _).mono ?_
    rintro e w1 ⟨rfl, hb⟩
    go_wp2_with fail
    go_ret
    exact ⟨rfl, hb⟩

set_option maxHeartbeats 2000000 in
theorem pieces_ok (w : World) (l : List UInt8) (ad : Addr) (c p q : Nat) (h : SlV w w.heap.size (.slice (some ad) l.length c) (u8s l)) (hl : l.length ≤ 2000) (hpq : p ≤ q) (hq : q ≤ l.length) :
    Calls Try.prog 6 #[.slice (some ad) l.length c, .int .i64 p, .int .i64 q] w fun e w' => e = .returned (.bool true) ∧ Below w.heap.size w w' := by
  have hnc : l.length ≤ c ∧ c ≤ maxLen := by
    rcases h.inv with ⟨e, _⟩ | ⟨_, _, _, hc, hm, _⟩
    · cases e
    · exact ⟨hc, hm⟩
  obtain ⟨n, hn⟩ : ∃ n, l.length = n := ⟨_, rfl⟩
  rw [hn] at h hl hq hnc ⊢
  obtain ⟨hc, hm⟩ := hnc
  have d1 : decide (2000 < (n : Int)) = false := by simp; omega
  have d2 : decide ((p : Int) < 0) = false := by simp
  have d3 : decide (n < p) = false := by simp; omega
  have d4 : decide (q < p) = false := by simp; omega
  have d5 : decide (n < q) = false := by simp; omega
  have H := Lib.hid h
  have HN := Lib.hid hn
  unfold maxLen at hm
  clear h hn
  by_cases hp : c = p
  · have eq1 : c = q := by omega
    have eq2 : c = n := by omega
    subst eq1
    subst eq2
    subst hp
    have HP1 := Lib.hid (piece1 H.out c (by omega))
    have HP2 := Lib.hid (show SlV w w.heap.size (.slice (some ad) 0 0) (u8s ((l.drop c).take (c - c))) from by rw [Nat.sub_self, List.take_zero]; exact slv_none (Nat.zero_le _))
    have HP3 := Lib.hid (show SlV w w.heap.size (.slice (some ad) 0 0) (u8s (l.drop c)) from by rw [List.drop_of_length_le (by have := HN.out; omega)]; exact slv_none (Nat.zero_le _))
    have HJ2 := Lib.hid (join2 l c c hpq)
    go_enter Try.func6, Try.ntmps6
    go_wp2_with fail
    refine (new_adder w).mono ?_
    rintro e w1 ⟨rfl, ha1, rfl⟩
    have HB1 := Lib.hid (below_alloc w (.cells #[.int .i64 1, .int .i64 0, .bool true] 51))
    have HA := Lib.hid (add_any _ w.heap.size [] (l.take c) w.heap.size (.slice (some ad) c c) ha1 (HP1.out.below HB1.out) (slv_far HP1.out (Nat.le_refl _)))
    clear ha1
    go_wp2_with fail
    refine HA.out.mono ?_
    rintro e w2 ⟨rfl, ha2, hg2⟩
    rw [List.nil_append] at ha2
    have HA2 := Lib.hid ha2
    have HB2 := Lib.hid (below_of_only HB1.out hg2 (by simp) (Nat.le_refl _))
    clear ha2 hg2 HA HB1
    have hz2 : w.heap.size < w2.heap.size := HA2.out.lt
    go_wp2_with fail
    refine (sum_any w2 _ _ HA2.out).mono ?_
    rintro e w3 ⟨rfl, n3, hw3⟩
    have HB3 := Lib.hid (show Below w.heap.size w w3 by rw [hw3]; exact below_drewN HB2.out n3)
    have HA3 := Lib.hid (show Adr w3 w.heap.size (l.take c) by rw [hw3]; exact HA2.out)
    have hz3 : w.heap.size < w3.heap.size := HA3.out.lt
    clear hw3 HB2 HA2 hz2
    have HA := Lib.hid (add_any w3 w.heap.size (l.take c) ((l.drop c).take (c - c)) w.heap.size (.slice (some ad) 0 0) HA3.out (HP2.out.below HB3.out) (slv_far HP2.out (Nat.le_refl _)))
    go_wp2_with fail
    refine HA.out.mono ?_
    rintro e w4 ⟨rfl, ha4, hg4⟩
    rw [HJ2.out] at ha4
    have HA4 := Lib.hid ha4
    have HB4 := Lib.hid (below_of_only HB3.out hg4 (by omega) (Nat.le_refl _))
    have hz4 : w.heap.size < w4.heap.size := ha4.lt
    clear ha4 hg4 HA HB3 HA3 hz3
    have HA := Lib.hid (add_any w4 w.heap.size (l.take c) (l.drop c) w.heap.size (.slice (some ad) 0 0) HA4.out (HP3.out.below HB4.out) (slv_far HP3.out (Nat.le_refl _)))
    go_wp2_with fail
    refine HA.out.mono ?_
    rintro e w5 ⟨rfl, ha5, hg5⟩
    rw [List.take_append_drop] at ha5
    have HA5 := Lib.hid ha5
    have HB5 := Lib.hid (below_of_only HB4.out hg5 (by omega) (Nat.le_refl _))
    have hz5 : w.heap.size < w5.heap.size := ha5.lt
    clear ha5 hg5 HA HB4 HA4 hz4
    go_wp2_with fail
    refine (add_nil _ _).mono ?_
    rintro e w6 ⟨rfl, rfl⟩
    have HOD := Lib.hid (show Odd (w5.alloc (.cells #[.int .i64 0, .int .i64 0, .bool false] 51)) w5.heap.size from Blk.new _ _ _)
    have HA6 := Lib.hid (show Adr (w5.alloc (.cells #[.int .i64 0, .int .i64 0, .bool false] 51)) w.heap.size l from Blk.alloc HA5.out _)
    have HB6 := Lib.hid (HB5.out.alloc (by omega) (.cells #[.int .i64 0, .int .i64 0, .bool false] 51))
    clear HB5 HA5
    go_wp2_with fail
    refine (add_odd _ _ HOD.out _).mono ?_
    rintro e w7 ⟨rfl, hw7⟩
    rw [hw7] at HOD HA6 HB6
    clear hw7
    have hz7 := HA6.out.lt
    have HRO := Lib.hid (rof_any w7 (l.take c) w.heap.size (.slice (some ad) c c) (HP1.out.below HB6.out) (by rw [List.length_take]; omega))
    go_wp2_with fail
    refine HRO.out.mono ?_
    rintro e w8 ⟨rfl, n8, hw8⟩
    have HB8 := Lib.hid (show Below w.heap.size w w8 by rw [hw8]; exact below_drewN HB6.out n8)
    have HA8 := Lib.hid (show Adr w8 w.heap.size l by rw [hw8]; exact HA6.out)
    have HO8 := Lib.hid (show Odd w8 w5.heap.size by rw [hw8]; exact HOD.out)
    clear hw8 HB6 HA6 HOD HRO hz7
    go_wp2_with fail
    refine (sum_any w8 _ _ HA8.out).mono ?_
    rintro e w9 ⟨rfl, n9, hw9⟩
    have HB9 := Lib.hid (show Below w.heap.size w w9 by rw [hw9]; exact below_drewN HB8.out n9)
    have HO9 := Lib.hid (show Odd w9 w5.heap.size by rw [hw9]; exact HO8.out)
    clear hw9 HB8 HA8 HO8
    have HRO := Lib.hid (rof_any w9 l w.heap.size (.slice (some ad) l.length c) (by rw [HN.out]; exact H.out.below HB9.out) (by have := HN.out; omega))
    rw [HN.out] at HRO
    go_wp2_with fail
    refine HRO.out.mono ?_
    rintro e w10 ⟨rfl, n10, hw10⟩
    have HB10 := Lib.hid (show Below w.heap.size w w10 by rw [hw10]; exact below_drewN HB9.out n10)
    have HO10 := Lib.hid (show Odd w10 w5.heap.size by rw [hw10]; exact HO9.out)
    clear hw10 HB9 HO9 HRO
    go_wp2_with fail
    refine (sum_nil _).mono ?_
    rintro e w11 ⟨rfl, rfl⟩
    go_wp2_with fail
    refine (sum_odd _ _ HO10.out).mono ?_
    rintro e w12 ⟨rfl, rfl⟩
    go_wp2_with fail
    refine (known_sum _).mono ?_
    rintro e w13 ⟨rfl, hb13⟩
    go_wp2_with fail
    go_ret
    exact ⟨rfl, HB10.out.trans (hb13.mono HB10.out.size)⟩
  · by_cases hqc : c = q
    · have HP1 := Lib.hid (piece1 H.out p (by omega))
      have eq1 : c = q := hqc
      have eq2 : c = n := by omega
      subst eq1
      subst eq2
      have HP2 := Lib.hid (slv_piece H.out p c hpq hq)
      have HP3 := Lib.hid (show SlV w w.heap.size (.slice (some ad) 0 0) (u8s (l.drop c)) from by rw [List.drop_of_length_le (by have := HN.out; omega)]; exact slv_none (Nat.zero_le _))
      have HJ2 := Lib.hid (join2 l p c hpq)
      go_enter Try.func6, Try.ntmps6
      go_wp2_with fail
      refine (new_adder w).mono ?_
      rintro e w1 ⟨rfl, ha1, rfl⟩
      have HB1 := Lib.hid (below_alloc w (.cells #[.int .i64 1, .int .i64 0, .bool true] 51))
      have HA := Lib.hid (add_any _ w.heap.size [] (l.take p) w.heap.size (.slice (some ad) p c) ha1 (HP1.out.below HB1.out) (slv_far HP1.out (Nat.le_refl _)))
      clear ha1
      go_wp2_with fail
      refine HA.out.mono ?_
      rintro e w2 ⟨rfl, ha2, hg2⟩
      rw [List.nil_append] at ha2
      have HA2 := Lib.hid ha2
      have HB2 := Lib.hid (below_of_only HB1.out hg2 (by simp) (Nat.le_refl _))
      clear ha2 hg2 HA HB1
      have hz2 : w.heap.size < w2.heap.size := HA2.out.lt
      go_wp2_with fail
      refine (sum_any w2 _ _ HA2.out).mono ?_
      rintro e w3 ⟨rfl, n3, hw3⟩
      have HB3 := Lib.hid (show Below w.heap.size w w3 by rw [hw3]; exact below_drewN HB2.out n3)
      have HA3 := Lib.hid (show Adr w3 w.heap.size (l.take p) by rw [hw3]; exact HA2.out)
      have hz3 : w.heap.size < w3.heap.size := HA3.out.lt
      clear hw3 HB2 HA2 hz2
      have HA := Lib.hid (add_any w3 w.heap.size (l.take p) ((l.drop p).take (c - p)) w.heap.size (.slice (some (ad.add p)) (c - p) (c - p)) HA3.out (HP2.out.below HB3.out) (slv_far HP2.out (Nat.le_refl _)))
      go_wp2_with fail
      refine HA.out.mono ?_
      rintro e w4 ⟨rfl, ha4, hg4⟩
      rw [HJ2.out] at ha4
      have HA4 := Lib.hid ha4
      have HB4 := Lib.hid (below_of_only HB3.out hg4 (by omega) (Nat.le_refl _))
      have hz4 : w.heap.size < w4.heap.size := ha4.lt
      clear ha4 hg4 HA HB3 HA3 hz3
      have HA := Lib.hid (add_any w4 w.heap.size (l.take c) (l.drop c) w.heap.size (.slice (some ad) 0 0) HA4.out (HP3.out.below HB4.out) (slv_far HP3.out (Nat.le_refl _)))
      go_wp2_with fail
      refine HA.out.mono ?_
      rintro e w5 ⟨rfl, ha5, hg5⟩
      rw [List.take_append_drop] at ha5
      have HA5 := Lib.hid ha5
      have HB5 := Lib.hid (below_of_only HB4.out hg5 (by omega) (Nat.le_refl _))
      have hz5 : w.heap.size < w5.heap.size := ha5.lt
      clear ha5 hg5 HA HB4 HA4 hz4
      go_wp2_with fail
      refine (add_nil _ _).mono ?_
      rintro e w6 ⟨rfl, rfl⟩
      have HOD := Lib.hid (show Odd (w5.alloc (.cells #[.int .i64 0, .int .i64 0, .bool false] 51)) w5.heap.size from Blk.new _ _ _)
      have HA6 := Lib.hid (show Adr (w5.alloc (.cells #[.int .i64 0, .int .i64 0, .bool false] 51)) w.heap.size l from Blk.alloc HA5.out _)
      have HB6 := Lib.hid (HB5.out.alloc (by omega) (.cells #[.int .i64 0, .int .i64 0, .bool false] 51))
      clear HB5 HA5
      go_wp2_with fail
      refine (add_odd _ _ HOD.out _).mono ?_
      rintro e w7 ⟨rfl, hw7⟩
      rw [hw7] at HOD HA6 HB6
      clear hw7
      have hz7 := HA6.out.lt
      have HRO := Lib.hid (rof_any w7 (l.take p) w.heap.size (.slice (some ad) p c) (HP1.out.below HB6.out) (by rw [List.length_take]; omega))
      go_wp2_with fail
      refine HRO.out.mono ?_
      rintro e w8 ⟨rfl, n8, hw8⟩
      have HB8 := Lib.hid (show Below w.heap.size w w8 by rw [hw8]; exact below_drewN HB6.out n8)
      have HA8 := Lib.hid (show Adr w8 w.heap.size l by rw [hw8]; exact HA6.out)
      have HO8 := Lib.hid (show Odd w8 w5.heap.size by rw [hw8]; exact HOD.out)
      clear hw8 HB6 HA6 HOD HRO hz7
      go_wp2_with fail
      refine (sum_any w8 _ _ HA8.out).mono ?_
      rintro e w9 ⟨rfl, n9, hw9⟩
      have HB9 := Lib.hid (show Below w.heap.size w w9 by rw [hw9]; exact below_drewN HB8.out n9)
      have HO9 := Lib.hid (show Odd w9 w5.heap.size by rw [hw9]; exact HO8.out)
      clear hw9 HB8 HA8 HO8
      have HRO := Lib.hid (rof_any w9 l w.heap.size (.slice (some ad) l.length c) (by rw [HN.out]; exact H.out.below HB9.out) (by have := HN.out; omega))
      rw [HN.out] at HRO
      go_wp2_with fail
      refine HRO.out.mono ?_
      rintro e w10 ⟨rfl, n10, hw10⟩
      have HB10 := Lib.hid (show Below w.heap.size w w10 by rw [hw10]; exact below_drewN HB9.out n10)
      have HO10 := Lib.hid (show Odd w10 w5.heap.size by rw [hw10]; exact HO9.out)
      clear hw10 HB9 HO9 HRO
      go_wp2_with fail
      refine (sum_nil _).mono ?_
      rintro e w11 ⟨rfl, rfl⟩
      go_wp2_with fail
      refine (sum_odd _ _ HO10.out).mono ?_
      rintro e w12 ⟨rfl, rfl⟩
      go_wp2_with fail
      refine (known_sum _).mono ?_
      rintro e w13 ⟨rfl, hb13⟩
      go_wp2_with fail
      go_ret
      exact ⟨rfl, HB10.out.trans (hb13.mono HB10.out.size)⟩
    · have HP1 := Lib.hid (piece1 H.out p (by omega))
      have HP2 := Lib.hid (slv_piece H.out p q hpq hq)
      have HP3 := Lib.hid (piece3 H.out HN.out q hq)
      have HJ2 := Lib.hid (join2 l p q hpq)
      go_enter Try.func6, Try.ntmps6
      go_wp2_with fail
      refine (new_adder w).mono ?_
      rintro e w1 ⟨rfl, ha1, rfl⟩
      have HB1 := Lib.hid (below_alloc w (.cells #[.int .i64 1, .int .i64 0, .bool true] 51))
      have HA := Lib.hid (add_any _ w.heap.size [] (l.take p) w.heap.size (.slice (some ad) p c) ha1 (HP1.out.below HB1.out) (slv_far HP1.out (Nat.le_refl _)))
      clear ha1
      go_wp2_with fail
      refine HA.out.mono ?_
      rintro e w2 ⟨rfl, ha2, hg2⟩
      rw [List.nil_append] at ha2
      have HA2 := Lib.hid ha2
      have HB2 := Lib.hid (below_of_only HB1.out hg2 (by simp) (Nat.le_refl _))
      clear ha2 hg2 HA HB1
      have hz2 : w.heap.size < w2.heap.size := HA2.out.lt
      go_wp2_with fail
      refine (sum_any w2 _ _ HA2.out).mono ?_
      rintro e w3 ⟨rfl, n3, hw3⟩
      have HB3 := Lib.hid (show Below w.heap.size w w3 by rw [hw3]; exact below_drewN HB2.out n3)
      have HA3 := Lib.hid (show Adr w3 w.heap.size (l.take p) by rw [hw3]; exact HA2.out)
      have hz3 : w.heap.size < w3.heap.size := HA3.out.lt
      clear hw3 HB2 HA2 hz2
      have HA := Lib.hid (add_any w3 w.heap.size (l.take p) ((l.drop p).take (q - p)) w.heap.size (.slice (some (ad.add p)) (q - p) (c - p)) HA3.out (HP2.out.below HB3.out) (slv_far HP2.out (Nat.le_refl _)))
      go_wp2_with fail
      refine HA.out.mono ?_
      rintro e w4 ⟨rfl, ha4, hg4⟩
      rw [HJ2.out] at ha4
      have HA4 := Lib.hid ha4
      have HB4 := Lib.hid (below_of_only HB3.out hg4 (by omega) (Nat.le_refl _))
      have hz4 : w.heap.size < w4.heap.size := ha4.lt
      clear ha4 hg4 HA HB3 HA3 hz3
      have HA := Lib.hid (add_any w4 w.heap.size (l.take q) (l.drop q) w.heap.size (.slice (some (ad.add q)) (n - q) (c - q)) HA4.out (HP3.out.below HB4.out) (slv_far HP3.out (Nat.le_refl _)))
      go_wp2_with fail
      refine HA.out.mono ?_
      rintro e w5 ⟨rfl, ha5, hg5⟩
      rw [List.take_append_drop] at ha5
      have HA5 := Lib.hid ha5
      have HB5 := Lib.hid (below_of_only HB4.out hg5 (by omega) (Nat.le_refl _))
      have hz5 : w.heap.size < w5.heap.size := ha5.lt
      clear ha5 hg5 HA HB4 HA4 hz4
      go_wp2_with fail
      refine (add_nil _ _).mono ?_
      rintro e w6 ⟨rfl, rfl⟩
      have HOD := Lib.hid (show Odd (w5.alloc (.cells #[.int .i64 0, .int .i64 0, .bool false] 51)) w5.heap.size from Blk.new _ _ _)
      have HA6 := Lib.hid (show Adr (w5.alloc (.cells #[.int .i64 0, .int .i64 0, .bool false] 51)) w.heap.size l from Blk.alloc HA5.out _)
      have HB6 := Lib.hid (HB5.out.alloc (by omega) (.cells #[.int .i64 0, .int .i64 0, .bool false] 51))
      clear HB5 HA5
      go_wp2_with fail
      refine (add_odd _ _ HOD.out _).mono ?_
      rintro e w7 ⟨rfl, hw7⟩
      rw [hw7] at HOD HA6 HB6
      clear hw7
      have hz7 := HA6.out.lt
      have HRO := Lib.hid (rof_any w7 (l.take p) w.heap.size (.slice (some ad) p c) (HP1.out.below HB6.out) (by rw [List.length_take]; omega))
      go_wp2_with fail
      refine HRO.out.mono ?_
      rintro e w8 ⟨rfl, n8, hw8⟩
      have HB8 := Lib.hid (show Below w.heap.size w w8 by rw [hw8]; exact below_drewN HB6.out n8)
      have HA8 := Lib.hid (show Adr w8 w.heap.size l by rw [hw8]; exact HA6.out)
      have HO8 := Lib.hid (show Odd w8 w5.heap.size by rw [hw8]; exact HOD.out)
      clear hw8 HB6 HA6 HOD HRO hz7
      go_wp2_with fail
      refine (sum_any w8 _ _ HA8.out).mono ?_
      rintro e w9 ⟨rfl, n9, hw9⟩
      have HB9 := Lib.hid (show Below w.heap.size w w9 by rw [hw9]; exact below_drewN HB8.out n9)
      have HO9 := Lib.hid (show Odd w9 w5.heap.size by rw [hw9]; exact HO8.out)
      clear hw9 HB8 HA8 HO8
      have HRO := Lib.hid (rof_any w9 l w.heap.size (.slice (some ad) l.length c) (by rw [HN.out]; exact H.out.below HB9.out) (by have := HN.out; omega))
      rw [HN.out] at HRO
      go_wp2_with fail
      refine HRO.out.mono ?_
      rintro e w10 ⟨rfl, n10, hw10⟩
      have HB10 := Lib.hid (show Below w.heap.size w w10 by rw [hw10]; exact below_drewN HB9.out n10)
      have HO10 := Lib.hid (show Odd w10 w5.heap.size by rw [hw10]; exact HO9.out)
      clear hw10 HB9 HO9 HRO
      go_wp2_with fail
      refine (sum_nil _).mono ?_
      rintro e w11 ⟨rfl, rfl⟩
      go_wp2_with fail
      refine (sum_odd _ _ HO10.out).mono ?_
      rintro e w12 ⟨rfl, rfl⟩
      go_wp2_with fail
      refine (known_sum _).mono ?_
      rintro e w13 ⟨rfl, hb13⟩
      go_wp2_with fail
      go_ret
      exact ⟨rfl, HB10.out.trans (hb13.mono HB10.out.size)⟩

set_option maxHeartbeats 2000000 in
theorem pieces_nil (w : World) (l : List UInt8) (h0 : l = []) :
    Calls Try.prog 6 #[.slice none 0 0, .int .i64 0, .int .i64 0] w fun e w' => e = .returned (.bool true) ∧ Below w.heap.size w w' := by
  have H0 := Lib.hid h0
  clear h0
  have HP1 := Lib.hid (show SlV w w.heap.size (.slice none 0 0) (u8s (l.take 0)) from .nil)
  have HP2 := Lib.hid (show SlV w w.heap.size (.slice none 0 0) (u8s ((l.drop 0).take (0 - 0))) from .nil)
  have HP3 := Lib.hid (show SlV w w.heap.size (.slice none 0 0) (u8s (l.drop 0)) from by rw [H0.out]; exact .nil)
  have HJ2 := Lib.hid (join2 l 0 0 (Nat.le_refl _))
  go_enter Try.func6, Try.ntmps6
  go_wp2_with fail
  refine (new_adder w).mono ?_
  rintro e w1 ⟨rfl, ha1, rfl⟩
  have HB1 := Lib.hid (below_alloc w (.cells #[.int .i64 1, .int .i64 0, .bool true] 51))
  have HA := Lib.hid (add_any _ w.heap.size [] (l.take 0) w.heap.size (.slice none 0 0) ha1 (HP1.out.below HB1.out) (slv_far HP1.out (Nat.le_refl _)))
  clear ha1
  go_wp2_with fail
  refine HA.out.mono ?_
  rintro e w2 ⟨rfl, ha2, hg2⟩
  rw [List.nil_append] at ha2
  have HA2 := Lib.hid ha2
  have HB2 := Lib.hid (below_of_only HB1.out hg2 (by simp) (Nat.le_refl _))
  clear ha2 hg2 HA HB1
  have hz2 : w.heap.size < w2.heap.size := HA2.out.lt
  go_wp2_with fail
  refine (sum_any w2 _ _ HA2.out).mono ?_
  rintro e w3 ⟨rfl, n3, hw3⟩
  have HB3 := Lib.hid (show Below w.heap.size w w3 by rw [hw3]; exact below_drewN HB2.out n3)
  have HA3 := Lib.hid (show Adr w3 w.heap.size (l.take 0) by rw [hw3]; exact HA2.out)
  have hz3 : w.heap.size < w3.heap.size := HA3.out.lt
  clear hw3 HB2 HA2 hz2
  have HA := Lib.hid (add_any w3 w.heap.size (l.take 0) ((l.drop 0).take (0 - 0)) w.heap.size (.slice none 0 0) HA3.out (HP2.out.below HB3.out) (slv_far HP2.out (Nat.le_refl _)))
  go_wp2_with fail
  refine HA.out.mono ?_
  rintro e w4 ⟨rfl, ha4, hg4⟩
  rw [HJ2.out] at ha4
  have HA4 := Lib.hid ha4
  have HB4 := Lib.hid (below_of_only HB3.out hg4 (by omega) (Nat.le_refl _))
  have hz4 : w.heap.size < w4.heap.size := ha4.lt
  clear ha4 hg4 HA HB3 HA3 hz3
  have HA := Lib.hid (add_any w4 w.heap.size (l.take 0) (l.drop 0) w.heap.size (.slice none 0 0) HA4.out (HP3.out.below HB4.out) (slv_far HP3.out (Nat.le_refl _)))
  go_wp2_with fail
  refine HA.out.mono ?_
  rintro e w5 ⟨rfl, ha5, hg5⟩
  rw [List.take_append_drop] at ha5
  have HA5 := Lib.hid ha5
  have HB5 := Lib.hid (below_of_only HB4.out hg5 (by omega) (Nat.le_refl _))
  have hz5 : w.heap.size < w5.heap.size := ha5.lt
  clear ha5 hg5 HA HB4 HA4 hz4
  go_wp2_with fail
  refine (add_nil _ _).mono ?_
  rintro e w6 ⟨rfl, rfl⟩
  have HOD := Lib.hid (show Odd (w5.alloc (.cells #[.int .i64 0, .int .i64 0, .bool false] 51)) w5.heap.size from Blk.new _ _ _)
  have HA6 := Lib.hid (show Adr (w5.alloc (.cells #[.int .i64 0, .int .i64 0, .bool false] 51)) w.heap.size l from Blk.alloc HA5.out _)
  have HB6 := Lib.hid (HB5.out.alloc (by omega) (.cells #[.int .i64 0, .int .i64 0, .bool false] 51))
  clear HB5 HA5
  go_wp2_with fail
  refine (add_odd _ _ HOD.out _).mono ?_
  rintro e w7 ⟨rfl, hw7⟩
  rw [hw7] at HOD HA6 HB6
  clear hw7
  have hz7 := HA6.out.lt
  have HRO := Lib.hid (rof_any w7 (l.take 0) w.heap.size (.slice none 0 0) (HP1.out.below HB6.out) (by rw [H0.out]; decide))
  go_wp2_with fail
  refine HRO.out.mono ?_
  rintro e w8 ⟨rfl, n8, hw8⟩
  have HB8 := Lib.hid (show Below w.heap.size w w8 by rw [hw8]; exact below_drewN HB6.out n8)
  have HA8 := Lib.hid (show Adr w8 w.heap.size l by rw [hw8]; exact HA6.out)
  have HO8 := Lib.hid (show Odd w8 w5.heap.size by rw [hw8]; exact HOD.out)
  clear hw8 HB6 HA6 HOD HRO hz7
  go_wp2_with fail
  refine (sum_any w8 _ _ HA8.out).mono ?_
  rintro e w9 ⟨rfl, n9, hw9⟩
  have HB9 := Lib.hid (show Below w.heap.size w w9 by rw [hw9]; exact below_drewN HB8.out n9)
  have HO9 := Lib.hid (show Odd w9 w5.heap.size by rw [hw9]; exact HO8.out)
  clear hw9 HB8 HA8 HO8
  have HRO := Lib.hid (rof_any w9 l w.heap.size (.slice none 0 0) (by rw [H0.out]; exact .nil) (by rw [H0.out]; decide))
  go_wp2_with fail
  refine HRO.out.mono ?_
  rintro e w10 ⟨rfl, n10, hw10⟩
  have HB10 := Lib.hid (show Below w.heap.size w w10 by rw [hw10]; exact below_drewN HB9.out n10)
  have HO10 := Lib.hid (show Odd w10 w5.heap.size by rw [hw10]; exact HO9.out)
  clear hw10 HB9 HO9 HRO
  go_wp2_with fail
  refine (sum_nil _).mono ?_
  rintro e w11 ⟨rfl, rfl⟩
  go_wp2_with fail
  refine (sum_odd _ _ HO10.out).mono ?_
  rintro e w12 ⟨rfl, rfl⟩
  go_wp2_with fail
  refine (known_sum _).mono ?_
  rintro e w13 ⟨rfl, hb13⟩
  go_wp2_with fail
  go_ret
  exact ⟨rfl, HB10.out.trans (hb13.mono HB10.out.size)⟩

theorem pieces_any (w : World) (l : List UInt8) (A : Option Addr) (c : Nat) (a1 a2 : Int) (h : SlV w w.heap.size (.slice A l.length c) (u8s l)) :
    Calls Try.prog 6 #[.slice A l.length c, .int .i64 a1, .int .i64 a2] w fun e w' => e = .returned (.bool true) ∧ Below w.heap.size w w' := by
  by_cases h1 : 2000 < (l.length : Int)
  · exact pieces_bad w _ c A a1 a2 (.inl (by simp; omega))
  by_cases h2 : a1 < 0
  · exact pieces_bad w _ c A a1 a2 (.inr (.inl ⟨by simp; omega, by simp; omega⟩))
  by_cases h3 : (l.length : Int) < a1
  · exact pieces_bad w _ c A a1 a2 (.inr (.inr (.inl ⟨by simp; omega, by simp; omega, by simp; omega⟩)))
  by_cases h4 : a2 < a1
  · exact pieces_bad w _ c A a1 a2 (.inr (.inr (.inr (.inl ⟨by simp; omega, by simp; omega, by simp; omega, by simp; omega⟩))))
  by_cases h5 : (l.length : Int) < a2
  · exact pieces_bad w _ c A a1 a2 (.inr (.inr (.inr (.inr ⟨by simp; omega, by simp; omega, by simp; omega, by simp; omega, by simp; omega⟩))))
  obtain ⟨p, rfl⟩ := Int.eq_ofNat_of_zero_le (show 0 ≤ a1 by omega)
  obtain ⟨q, rfl⟩ := Int.eq_ofNat_of_zero_le (show 0 ≤ a2 by omega)
  rcases h.inv with ⟨rfl, hn, rfl, hl⟩ | ⟨ad, rfl, _, _, _, _⟩
  · have hl0 : l = [] := List.eq_nil_of_length_eq_zero hn
    obtain rfl : p = 0 := by omega
    obtain rfl : q = 0 := by omega
    rw [hn]
    exact pieces_nil w l hl0
  · exact pieces_ok w l ad c p q h (by omega) (by omega) (by omega)
end Go.Proofs.Ytlpmndljjdljmaa.By
