/-
  WALK: the document's own reader of numbers (function 26), where the bytes are there.
-/
import Derived.Test.YtbknmapkdjmcjaaGreatDoorRf
namespace Go.Proofs.YtbknmapkdjmcjaaGreatDoor.By
open Go.ChangeShapes Go.WideShapes Go.ChangeAt Go.RowKit
open Mem

theorem pow_small (k : Nat) (h : k ≤ 7) : (256 : Nat) ^ k ≤ 72057594037927936 := by
  have : (256 : Nat) ^ k ≤ 256 ^ 7 := Nat.pow_le_pow_right (by decide) h
  have e : (256 : Nat) ^ 7 = 72057594037927936 := by decide
  omega

theorem u64_back (z : Int) : wrap64 (IntKind.u64.wrap z) = wrap64 z := by
  rw [IntKind.wrap_u64]
  unfold wrap64
  omega

set_option maxRecDepth 100000 in
set_option maxHeartbeats 2000000 in
theorem rnum_plain (w : World) (ad : Addr) (n c p : Nat) (us : List UInt8) (k : Nat) (hp : p ≤ n) (hn : n ≤ 1099511627776) (h1 : 1 ≤ (k : Int)) (h8 : (k : Int) ≤ 8) (hk : (k : Int) ≤ (n : Int) - p) (hus : us.length = k)
    (hr : ∀ j (hj : j < us.length), w.cell? (ad.add (p + j)) = some (.int .u8 (us[j].toNat : Int))) :
    Calls Tryz.prog 86 #[.agg #[.slice (some ad) n c, .int .i64 p, .bool false], .int .i64 k, .bool false] w (RNum w (some ad) n c (p + k) false (wrap64 (natV us))) := by
  have d1 : decide ((k : Int) < 1) = false := by simp; omega
  have d1' : ¬ (k : Int) < 1 := by omega
  have d2 : decide (8 < (k : Int)) = false := by simp; omega
  have d3 : decide ((n : Int) - p < k) = false := by simp; omega
  have HR := Lib.hid hr
  have HU := Lib.hid hus
  have HPK := Lib.hid (show ((p + k : Nat) : Int) = (p : Int) + k by omega)
  clear hr hus
  go_enter Tryz.func86, Tryz.ntmps86
  go_wp2
  go_loop [8, 9] (fun u i => ∃ (j q : Nat), j ≤ k ∧ i = .int .i64 j ∧ u = .int .u64 q ∧ Hid (q = natV (us.take j))) (fun _ i => k - (intOf i).toNat)
  case atStart => exact ⟨0, 0, by omega, rfl, rfl, Lib.hid rfl⟩
  case round =>
    obtain ⟨j, q, hj, rfl, rfl, HQ⟩ := hrel
    by_cases hlt : j < k
    · have hju : j < us.length := by have := HU.out; omega
      have hcell := HR.out j hju
      have hx := us[j].toNat_lt
      have hq : q ≤ 72057594037927936 := by
        have h2 := natV_lt (us.take j)
        have h3 : (us.take j).length = j := by rw [List.length_take]; omega
        have h4 := pow_small j (by omega)
        have h5 := HQ.out
        rw [h3] at h2
        omega
      have HN := Lib.hid (show q * 256 + us[j].toNat = natV (us.take (j + 1)) by rw [List.take_succ_eq_append_getElem hju, natV_snoc, ← HQ.out])
      generalize us[j].toNat = y at hcell hx HN
      clear hju
      have hq2 : q * 256 + y ≤ 18446744073709551615 := by
        have : q ≤ 72057594037927935 ∨ q = 72057594037927936 := by omega
        rcases this with h | h
        · omega
        · exfalso
          have h5 := HN.out
          have h6 := natV_lt (us.take (j + 1))
          have h7 : (us.take (j + 1)).length = j + 1 := by rw [List.length_take]; have := HU.out; omega
          rw [h7] at h6
          have h8 : (256 : Nat) ^ (j + 1) ≤ 256 ^ 8 := Nat.pow_le_pow_right (by decide) (by omega)
          have e : (256 : Nat) ^ 8 = 18446744073709551616 := by decide
          omega
      have ci : ∀ o1 o2 : Obj, ((w.alloc o1).alloc o2).cell? (ad.add (p + j)) = some (.int .u8 (y : Int)) := fun o1 o2 => by
        have hb := World.block_lt_of_cell? w _ hcell
        rw [World.cell?_alloc_lt _ _ _ (by simp; omega), World.cell?_alloc_lt _ _ _ hb]
        exact hcell
      clear hcell
      go_wp2
      go_round
      case rel => exact ⟨j + 1, q * 256 + y, by omega, by go_num, by go_num, HN⟩
      case measure => simp [intOf]; omega
    · have HE := Lib.hid (show (q : Int) = natV us by rw [HQ.out, List.take_of_length_le (by have := HU.out; omega)])
      go_wp2
      refine bodyPost_ret (v := .tuple #[.agg #[.slice (some ad) n c, .int .i64 (p + k), .bool false], .int .i64 (wrap64 q)]) (by simp [results, Tryz.results86, go_sem]) rfl ⟨by rw [HPK.out, ← HE.out], by go_grown⟩

set_option maxRecDepth 100000 in
set_option maxHeartbeats 2000000 in
theorem rnum_eight (w : World) (ad : Addr) (n c p : Nat) (us : List UInt8) (k : Nat) (hp : p ≤ n) (hn : n ≤ 1099511627776) (h1 : 1 ≤ (k : Int)) (h8 : (k : Int) ≤ 8) (hk : (k : Int) ≤ (n : Int) - p) (hus : us.length = k)
    (h7 : 8 ≤ (k : Int)) (hr : ∀ j (hj : j < us.length), w.cell? (ad.add (p + j)) = some (.int .u8 (us[j].toNat : Int))) :
    Calls Tryz.prog 86 #[.agg #[.slice (some ad) n c, .int .i64 p, .bool false], .int .i64 k, .bool true] w (RNum w (some ad) n c (p + k) false (wrap64 (natV us))) := by
  have d1 : decide ((k : Int) < 1) = false := by simp; omega
  have d1' : ¬ (k : Int) < 1 := by omega
  have d2 : decide (8 < (k : Int)) = false := by simp; omega
  have d3 : decide ((n : Int) - p < k) = false := by simp; omega
  have d4 : decide ((k : Int) < 8) = false := by simp; omega
  have HR := Lib.hid hr
  have HU := Lib.hid hus
  have HPK := Lib.hid (show ((p + k : Nat) : Int) = (p : Int) + k by omega)
  clear hr hus
  go_enter Tryz.func86, Tryz.ntmps86
  go_wp2
  go_loop [8, 9] (fun u i => ∃ (j q : Nat), j ≤ k ∧ i = .int .i64 j ∧ u = .int .u64 q ∧ Hid (q = natV (us.take j))) (fun _ i => k - (intOf i).toNat)
  case atStart => exact ⟨0, 0, by omega, rfl, rfl, Lib.hid rfl⟩
  case round =>
    obtain ⟨j, q, hj, rfl, rfl, HQ⟩ := hrel
    by_cases hlt : j < k
    · have hju : j < us.length := by have := HU.out; omega
      have hcell := HR.out j hju
      have hx := us[j].toNat_lt
      have hq : q ≤ 72057594037927936 := by
        have h2 := natV_lt (us.take j)
        have h3 : (us.take j).length = j := by rw [List.length_take]; omega
        have h4 := pow_small j (by omega)
        have h5 := HQ.out
        rw [h3] at h2
        omega
      have HN := Lib.hid (show q * 256 + us[j].toNat = natV (us.take (j + 1)) by rw [List.take_succ_eq_append_getElem hju, natV_snoc, ← HQ.out])
      generalize us[j].toNat = y at hcell hx HN
      clear hju
      have hq2 : q * 256 + y ≤ 18446744073709551615 := by
        have : q ≤ 72057594037927935 ∨ q = 72057594037927936 := by omega
        rcases this with h | h
        · omega
        · exfalso
          have h5 := HN.out
          have h6 := natV_lt (us.take (j + 1))
          have h7 : (us.take (j + 1)).length = j + 1 := by rw [List.length_take]; have := HU.out; omega
          rw [h7] at h6
          have h8 : (256 : Nat) ^ (j + 1) ≤ 256 ^ 8 := Nat.pow_le_pow_right (by decide) (by omega)
          have e : (256 : Nat) ^ 8 = 18446744073709551616 := by decide
          omega
      have ci : ∀ o1 o2 : Obj, ((w.alloc o1).alloc o2).cell? (ad.add (p + j)) = some (.int .u8 (y : Int)) := fun o1 o2 => by
        have hb := World.block_lt_of_cell? w _ hcell
        rw [World.cell?_alloc_lt _ _ _ (by simp; omega), World.cell?_alloc_lt _ _ _ hb]
        exact hcell
      clear hcell
      go_wp2
      go_round
      case rel => exact ⟨j + 1, q * 256 + y, by omega, by go_num, by go_num, HN⟩
      case measure => simp [intOf]; omega
    · have HE := Lib.hid (show (q : Int) = natV us by rw [HQ.out, List.take_of_length_le (by have := HU.out; omega)])
      go_wp2
      refine bodyPost_ret (v := .tuple #[.agg #[.slice (some ad) n c, .int .i64 (p + k), .bool false], .int .i64 (wrap64 q)]) (by simp [results, Tryz.results86, go_sem]) rfl ⟨by rw [HPK.out, ← HE.out], by go_grown⟩

set_option maxRecDepth 100000 in
set_option maxHeartbeats 2000000 in
theorem rnum_low (w : World) (ad : Addr) (n c p : Nat) (us : List UInt8) (k : Nat) (hp : p ≤ n) (hn : n ≤ 1099511627776) (h1 : 1 ≤ (k : Int)) (h8 : (k : Int) ≤ 8) (hk : (k : Int) ≤ (n : Int) - p) (hus : us.length = k)
    (h7 : (k : Int) < 8) (h128 : ∀ h : 0 < us.length, us[0].toNat < 128) (hr : ∀ j (hj : j < us.length), w.cell? (ad.add (p + j)) = some (.int .u8 (us[j].toNat : Int))) :
    Calls Tryz.prog 86 #[.agg #[.slice (some ad) n c, .int .i64 p, .bool false], .int .i64 k, .bool true] w (RNum w (some ad) n c (p + k) false (wrap64 (natV us))) := by
  have d1 : decide ((k : Int) < 1) = false := by simp; omega
  have d1' : ¬ (k : Int) < 1 := by omega
  have d2 : decide (8 < (k : Int)) = false := by simp; omega
  have d3 : decide ((n : Int) - p < k) = false := by simp; omega
  have d4 : decide ((k : Int) < 8) = true := by simp; omega
  have d4' : (k : Int) < 8 := h7
  have hx0 := hr 0 (by omega)
  rw [Nat.add_zero] at hx0
  have hxb := us[0].toNat_lt
  have h128 := h128 (by omega)
  generalize us[0].toNat = x at hx0 hxb h128
  have cx : ∀ o1 o2 : Obj, ((w.alloc o1).alloc o2).cell? (ad.add p) = some (.int .u8 (x : Int)) := fun o1 o2 => by
    have hb := World.block_lt_of_cell? w _ hx0
    rw [World.cell?_alloc_lt _ _ _ (by simp; omega), World.cell?_alloc_lt _ _ _ hb]
    exact hx0
  clear hx0
  have d5 : decide (128 ≤ (x : Int)) = false := by simp; omega
  have HR := Lib.hid hr
  have HU := Lib.hid hus
  have HPK := Lib.hid (show ((p + k : Nat) : Int) = (p : Int) + k by omega)
  clear hr hus
  go_enter Tryz.func86, Tryz.ntmps86
  go_wp2
  go_loop [8, 9] (fun u i => ∃ (j q : Nat), j ≤ k ∧ i = .int .i64 j ∧ u = .int .u64 q ∧ Hid (q = natV (us.take j))) (fun _ i => k - (intOf i).toNat)
  case atStart => exact ⟨0, 0, by omega, rfl, rfl, Lib.hid rfl⟩
  case round =>
    obtain ⟨j, q, hj, rfl, rfl, HQ⟩ := hrel
    by_cases hlt : j < k
    · have hju : j < us.length := by have := HU.out; omega
      have hcell := HR.out j hju
      have hx := us[j].toNat_lt
      have hq : q ≤ 72057594037927936 := by
        have h2 := natV_lt (us.take j)
        have h3 : (us.take j).length = j := by rw [List.length_take]; omega
        have h4 := pow_small j (by omega)
        have h5 := HQ.out
        rw [h3] at h2
        omega
      have HN := Lib.hid (show q * 256 + us[j].toNat = natV (us.take (j + 1)) by rw [List.take_succ_eq_append_getElem hju, natV_snoc, ← HQ.out])
      generalize us[j].toNat = y at hcell hx HN
      clear hju
      have hq2 : q * 256 + y ≤ 18446744073709551615 := by
        have : q ≤ 72057594037927935 ∨ q = 72057594037927936 := by omega
        rcases this with h | h
        · omega
        · exfalso
          have h5 := HN.out
          have h6 := natV_lt (us.take (j + 1))
          have h7 : (us.take (j + 1)).length = j + 1 := by rw [List.length_take]; have := HU.out; omega
          rw [h7] at h6
          have h8 : (256 : Nat) ^ (j + 1) ≤ 256 ^ 8 := Nat.pow_le_pow_right (by decide) (by omega)
          have e : (256 : Nat) ^ 8 = 18446744073709551616 := by decide
          omega
      have ci : ∀ o1 o2 : Obj, ((w.alloc o1).alloc o2).cell? (ad.add (p + j)) = some (.int .u8 (y : Int)) := fun o1 o2 => by
        have hb := World.block_lt_of_cell? w _ hcell
        rw [World.cell?_alloc_lt _ _ _ (by simp; omega), World.cell?_alloc_lt _ _ _ hb]
        exact hcell
      clear hcell
      go_wp2
      go_round
      case rel => exact ⟨j + 1, q * 256 + y, by omega, by go_num, by go_num, HN⟩
      case measure => simp [intOf]; omega
    · have HE := Lib.hid (show (q : Int) = natV us by rw [HQ.out, List.take_of_length_le (by have := HU.out; omega)])
      go_wp2
      refine bodyPost_ret (v := .tuple #[.agg #[.slice (some ad) n c, .int .i64 (p + k), .bool false], .int .i64 (wrap64 q)]) (by simp [results, Tryz.results86, go_sem]) rfl ⟨by rw [HPK.out, ← HE.out], by go_grown⟩

set_option maxRecDepth 100000 in
set_option maxHeartbeats 2000000 in
theorem rnum_high (w : World) (ad : Addr) (n c p : Nat) (us : List UInt8) (k : Nat) (hp : p ≤ n) (hn : n ≤ 1099511627776) (h1 : 1 ≤ (k : Int)) (h8 : (k : Int) ≤ 8) (hk : (k : Int) ≤ (n : Int) - p) (hus : us.length = k)
    (h7 : (k : Int) < 8) (h128 : ∀ h : 0 < us.length, 128 ≤ us[0].toNat) (hr : ∀ j (hj : j < us.length), w.cell? (ad.add (p + j)) = some (.int .u8 (us[j].toNat : Int))) :
    Calls Tryz.prog 86 #[.agg #[.slice (some ad) n c, .int .i64 p, .bool false], .int .i64 k, .bool true] w (RNum w (some ad) n c (p + k) false (wrap64 ((natV us : Int) - 256 ^ k))) := by
  have d1 : decide ((k : Int) < 1) = false := by simp; omega
  have d1' : ¬ (k : Int) < 1 := by omega
  have d2 : decide (8 < (k : Int)) = false := by simp; omega
  have d3 : decide ((n : Int) - p < k) = false := by simp; omega
  have d4 : decide ((k : Int) < 8) = true := by simp; omega
  have d4' : (k : Int) < 8 := h7
  have hx0 := hr 0 (by omega)
  rw [Nat.add_zero] at hx0
  have hxb := us[0].toNat_lt
  have h128 := h128 (by omega)
  generalize us[0].toNat = x at hx0 hxb h128
  have cx : ∀ o1 o2 : Obj, ((w.alloc o1).alloc o2).cell? (ad.add p) = some (.int .u8 (x : Int)) := fun o1 o2 => by
    have hb := World.block_lt_of_cell? w _ hx0
    rw [World.cell?_alloc_lt _ _ _ (by simp; omega), World.cell?_alloc_lt _ _ _ hb]
    exact hx0
  clear hx0
  have d5 : decide (128 ≤ (x : Int)) = true := by simp; omega
  have HR := Lib.hid hr
  have HU := Lib.hid hus
  have HPK := Lib.hid (show ((p + k : Nat) : Int) = (p : Int) + k by omega)
  clear hr hus
  go_enter Tryz.func86, Tryz.ntmps86
  go_wp2
  go_loop [8, 9] (fun u i => ∃ (j q : Nat), j ≤ k ∧ i = .int .i64 j ∧ u = .int .u64 q ∧ Hid (q = natV (us.take j))) (fun _ i => k - (intOf i).toNat)
  case atStart => exact ⟨0, 0, by omega, rfl, rfl, Lib.hid rfl⟩
  case round =>
    obtain ⟨j, q, hj, rfl, rfl, HQ⟩ := hrel
    by_cases hlt : j < k
    · have hju : j < us.length := by have := HU.out; omega
      have hcell := HR.out j hju
      have hx := us[j].toNat_lt
      have hq : q ≤ 72057594037927936 := by
        have h2 := natV_lt (us.take j)
        have h3 : (us.take j).length = j := by rw [List.length_take]; omega
        have h4 := pow_small j (by omega)
        have h5 := HQ.out
        rw [h3] at h2
        omega
      have HN := Lib.hid (show q * 256 + us[j].toNat = natV (us.take (j + 1)) by rw [List.take_succ_eq_append_getElem hju, natV_snoc, ← HQ.out])
      generalize us[j].toNat = y at hcell hx HN
      clear hju
      have hq2 : q * 256 + y ≤ 18446744073709551615 := by
        have : q ≤ 72057594037927935 ∨ q = 72057594037927936 := by omega
        rcases this with h | h
        · omega
        · exfalso
          have h5 := HN.out
          have h6 := natV_lt (us.take (j + 1))
          have h7 : (us.take (j + 1)).length = j + 1 := by rw [List.length_take]; have := HU.out; omega
          rw [h7] at h6
          have h8 : (256 : Nat) ^ (j + 1) ≤ 256 ^ 8 := Nat.pow_le_pow_right (by decide) (by omega)
          have e : (256 : Nat) ^ 8 = 18446744073709551616 := by decide
          omega
      have ci : ∀ o1 o2 : Obj, ((w.alloc o1).alloc o2).cell? (ad.add (p + j)) = some (.int .u8 (y : Int)) := fun o1 o2 => by
        have hb := World.block_lt_of_cell? w _ hcell
        rw [World.cell?_alloc_lt _ _ _ (by simp; omega), World.cell?_alloc_lt _ _ _ hb]
        exact hcell
      clear hcell
      go_wp2
      go_round
      case rel => exact ⟨j + 1, q * 256 + y, by omega, by go_num, by go_num, HN⟩
      case measure => simp [intOf]; omega
    · have HE := Lib.hid (show (q : Int) = natV us by rw [HQ.out, List.take_of_length_le (by have := HU.out; omega)])
      go_wp2
      go_loop [10, 11] (fun t i => ∃ (j z : Nat), j ≤ k ∧ i = .int .i64 j ∧ t = .int .u64 z ∧ z ≤ 72057594037927936 ∧ Hid (z = 256 ^ j)) (fun _ i => k - (intOf i).toNat)
      case atStart => exact ⟨0, 1, by omega, rfl, rfl, by omega, Lib.hid rfl⟩
      case round =>
        clear hlt
        obtain ⟨j2, z, hj2, rfl, rfl, hz, HZ⟩ := hrel
        by_cases hlt : j2 < k
        · have hz2 : z ≤ 281474976710656 := by
            have : (256 : Nat) ^ j2 ≤ 256 ^ 6 := Nat.pow_le_pow_right (by decide) (by omega)
            have e : (256 : Nat) ^ 6 = 281474976710656 := by decide
            have := HZ.out
            omega
          have HZ2 := Lib.hid (show z * 256 = 256 ^ (j2 + 1) by rw [HZ.out, Nat.pow_succ])
          clear HZ
          go_wp2
          go_round
          case rel => exact ⟨j2 + 1, z * 256, by omega, by go_num, by go_num, by omega, HZ2⟩
          case measure => simp [intOf]; omega
        · have HZ3 := Lib.hid (show (z : Int) = 256 ^ k by rw [HZ.out, show j2 = k from by omega]; simp)
          clear HZ
          go_wp2
          refine bodyPost_ret (v := .tuple #[.agg #[.slice (some ad) n c, .int .i64 (p + k), .bool false], .int .i64 (wrap64 (IntKind.u64.wrap (q - z)))]) (by simp [results, Tryz.results86, go_sem]) rfl ⟨by rw [u64_back, HE.out, HZ3.out, HPK.out], by go_grown⟩

/-- The document's own reader of numbers, whatever it is given: what octet's reader answers. -/
theorem rnum_any (w : World) (B : Nat) (A : Option Addr) (c : Nat) (l : List UInt8) (p : Nat) (good sg : Bool) (k : Int) (hp : p ≤ l.length) (hl : l.length ≤ 1099511627776) (hv : SlV w B (.slice A l.length c) (u8s l)) :
    Calls Tryz.prog 86 #[.agg #[.slice A l.length c, .int .i64 p, .bool (!good)], .int .i64 k, .bool sg] w (RNum w A l.length c (readP l p good k) (!fitsB l p good k) (readV sg l p good k)) := by
  by_cases hf : fitsB l p good k = true
  · have hf2 := hf
    simp only [fitsB, Bool.and_eq_true, decide_eq_true_eq] at hf2
    obtain ⟨rfl, h1, h8, hle⟩ := hf2
    obtain ⟨j, rfl⟩ := Int.eq_ofNat_of_zero_le (show 0 ≤ k by omega)
    unfold readP readV
    rw [hf, if_pos rfl, if_pos rfl, Int.toNat_natCast]
    rcases hv.inv with ⟨_, h0, _, _⟩ | ⟨ad, rfl, _, hc, _, hrow⟩
    · omega
    · have hus : ((l.drop p).take j).length = j := by rw [List.length_take, List.length_drop]; omega
      have hr : ∀ i (hi : i < ((l.drop p).take j).length), w.cell? (ad.add (p + i)) = some (.int .u8 (((l.drop p).take j)[i].toNat : Int)) := fun i hi => by
        have hi2 : p + i < l.length := by omega
        have e : ((l.drop p).take j)[i] = l[p + i] := by rw [List.getElem_take, List.getElem_drop]
        rw [e]
        exact (hrow (p + i) _ (by simp [u8s, hi2])).2
      obtain ⟨x, r, hx⟩ : ∃ x r, (l.drop p).take j = x :: r := by
        cases hq : (l.drop p).take j with
        | nil => rw [hq] at hus; simp at hus; omega
        | cons x r => exact ⟨x, r, rfl⟩
      have hj : r.length + 1 = j := by rw [hx] at hus; simpa using hus
      rw [hx] at hus hr ⊢
      cases sg with
      | false =>
        rw [numV_plain]
        exact rnum_plain w ad l.length c p (x :: r) j hp hl h1 h8 (by omega) hus hr
      | true =>
        rw [numV_sign, hj]
        by_cases h128 : 128 ≤ x.toNat
        · rw [if_pos h128]
          by_cases h7 : (j : Int) < 8
          · exact rnum_high w ad l.length c p (x :: r) j hp hl h1 h8 (by omega) hus h7 (fun _ => h128) hr
          · obtain rfl : j = 8 := by omega
            have h := rnum_eight w ad l.length c p (x :: r) 8 hp hl h1 h8 (by omega) hus (by omega) hr
            rwa [wrap_again ((natV (x :: r) : Int)) ((natV (x :: r) : Int) - 256 ^ 8) 1 (by rw [show (256 : Int) ^ 8 = 18446744073709551616 from by decide]; omega)] at h
        · rw [if_neg h128, Int.sub_zero]
          by_cases h7 : (j : Int) < 8
          · exact rnum_low w ad l.length c p (x :: r) j hp hl h1 h8 (by omega) hus h7 (fun _ => by simpa using h128) hr
          · exact rnum_eight w ad l.length c p (x :: r) j hp hl h1 h8 (by omega) hus (by omega) hr
  · have hf' : fitsB l p good k = false := by simpa using hf
    unfold readP readV
    rw [hf', if_neg (by simp), if_neg (by simp)]
    refine rnum_no w A l.length c p (!good) sg k hp hl ?_
    cases good with
    | false => exact .inl rfl
    | true =>
      right
      simp only [fitsB, Bool.true_and, decide_eq_false_iff_not] at hf'
      omega
end Go.Proofs.YtbknmapkdjmcjaaGreatDoor.By
