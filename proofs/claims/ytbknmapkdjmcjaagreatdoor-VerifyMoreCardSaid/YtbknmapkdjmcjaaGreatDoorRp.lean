/-
  WALK: the document's own Put and Text (functions 23, 24): new rows of the call's own, what octet.Put and octet.Text lay.
-/
import Derived.Test.YtbknmapkdjmcjaaGreatDoorTx
import Derived.Test.YtbknmapkdjmcjaaGreatDoorZe
import Derived.Lib.AppendStr
namespace Go.Proofs.YtbknmapkdjmcjaaGreatDoor.By
open Go.ChangeShapes Go.WideShapes Go.ChangeAt Go.RowKit
open Mem

theorem be_get (k : Nat) : ∀ (n : Int) (j : Nat) (h : j < (be n k).length), (be n k)[j] = byteI (n / 256 ^ (k - 1 - j)) := by
  induction k with
  | zero => intro n j h; simp [be] at h
  | succ k ih =>
    intro n j h
    rw [be_length] at h
    unfold be
    by_cases hj : j < k
    · rw [List.getElem_append_left (by rw [be_length]; exact hj), ih]
      have e : k + 1 - 1 - j = (k - 1 - j) + 1 := by omega
      rw [e, Int.pow_succ, Int.mul_comm, Int.ediv_ediv_of_nonneg (by decide)]
    · obtain rfl : j = k := by omega
      rw [List.getElem_append_right (by rw [be_length]; omega)]
      simp

theorem low_byte (n x : Int) (i : Nat) (hi : i ≤ 7) (h : x = (n % 18446744073709551616) / 256 ^ i) : x % 256 = ((byteI (n / 256 ^ i)).toNat : Int) := by
  rw [byteI_toNat, h]
  have hh : i = 0 ∨ i = 1 ∨ i = 2 ∨ i = 3 ∨ i = 4 ∨ i = 5 ∨ i = 6 ∨ i = 7 := by omega
  rcases hh with rfl | rfl | rfl | rfl | rfl | rfl | rfl | rfl <;> simp only [Int.reducePow, Int.pow_zero, Int.ediv_one] <;> omega

theorem take_next (n : Int) (k j : Nat) (hj : j < k) : u8s ((be n k).take (j + 1)) = u8s ((be n k).take j) ++ [.int .u8 ((byteI (n / 256 ^ (k - 1 - j))).toNat : Int)] := by
  have h : j < (be n k).length := by rw [be_length]; exact hj
  rw [List.take_succ_eq_append_getElem h, u8s_append, be_get]
  simp [u8s]

theorem div_next (u x : Int) (j : Nat) (h : x = u / 256 ^ j) : x / 256 = u / 256 ^ (j + 1) := by
  rw [h, Int.pow_succ, Int.ediv_ediv_of_nonneg (Int.le_of_lt (Int.pow_pos (by decide)))]

theorem u64_of (n : Int) : IntKind.u64.wrap n = n % 18446744073709551616 := by
  rw [IntKind.wrap_u64]

theorem u64_bd (n : Int) : 0 ≤ IntKind.u64.wrap n ∧ IntKind.u64.wrap n ≤ 18446744073709551615 := by
  rw [u64_of]; omega

set_option maxRecDepth 100000 in
set_option maxHeartbeats 2000000 in
theorem rput_yes (n : Int) (k : Nat) (vs : List Value) (w : World) (hl : vs.length ≤ 1099511627000) (hk0 : 1 ≤ (k : Int)) (hk : (k : Int) ≤ 8) (A : Option Addr) (c : Nat) (h : SlV w w.heap.size (.slice A vs.length c) vs) (h1 : ∀ u ∈ vs, u.oneCell' = true) :
    Calls Tryz.prog 79 #[.slice A vs.length c, .int .i64 n, .int .i64 k] w (Owns w (vs ++ u8s (be n k))) := by
  obtain ⟨i0, hi, hz0, hz1, hz2⟩ := info_parts info5
  have HN := Lib.hid (World.ownsRow_nil w w.heap.size 5 1)
  have d1 : decide ((k : Int) < 1) = false := by simp; omega
  have d2 : decide (8 < (k : Int)) = false := by simp; omega
  have HS := Lib.hid h
  have H1 := Lib.hid h1
  have HT := Lib.hid (take_next n k)
  have HL := Lib.hid (low_byte n)
  have hT0 : u8s ((be n k).take 0) = [] := rfl
  have HE := Lib.hid (show (be n k).take k = be n k from List.take_of_length_le (by rw [be_length]; exact Nat.le_refl _))
  have hlen : ∀ j, (vs ++ u8s ((be n k).take j)).length ≤ 1099511627100 := fun j => by
    rw [List.length_append, u8s_length, List.length_take, be_length]
    omega
  have HLEN := Lib.hid hlen
  clear h h1 hlen
  have c2 : ([] : List Value).length + vs.length ≤ maxLen := by simp [maxLen]; omega
  have c3 : (([] : List Value).length + vs.length) * 1 ≤ 140737488355328 := by simp; omega
  go_enter Tryz.func79, Tryz.ntmps79
  go_wp2_with (at_builtin; go_must (refine wpList_append_slv _ rfl (.tmp 12) (.tmp 13) _ rfl w.heap.size 5 i0 (.int .u8 0) 1 Tryz.underlying35 hi hz0 hz1 hz2 rfl (.slice none 0 0) [] rfl HN.out w.heap.size _ vs rfl HS.out H1.out c2 c3 (Nat.le_refl _) ?_); intro v1 w1 hown1 hg1)
  have HO := Lib.hid (show w1.ownsRow w.heap.size 5 1 v1 (vs ++ u8s ((be n k).take 0)).length (vs ++ u8s ((be n k).take 0)) by rw [hT0]; simpa using hown1)
  have HB := Lib.hid ((Below.refl w.heap.size w).grown hg1 (Nat.le_refl _) (fun q hq => by cases hq))
  clear hown1 hg1 hT0 HS
  obtain ⟨hu0, hu1⟩ := u64_bd n
  have HU := Lib.hid (u64_of n)
  generalize IntKind.u64.wrap n = U at hu0 hu1 HU ⊢
  go_loopw [7, 9] (fun v i wr => ∃ j : Nat, j ≤ k ∧ i = .int .i64 (k - 1 - j) ∧ Hid (wr.ownsRow w.heap.size 5 1 v (vs ++ u8s ((be n k).take j)).length (vs ++ u8s ((be n k).take j))) ∧ Hid (Below w.heap.size w wr)) (fun _ i _ => (intOf i + 1).toNat)
  case atStart => exact ⟨0, by omega, by simp, HO, HB⟩
  case round =>
    clear HO HB
    obtain ⟨j, hj, rfl, HO, HB⟩ := hrel
    by_cases hlt : j < k
    · go_wp2
      go_loop [10, 11] (fun x q => ∃ (y : Int) (t : Nat), x = .int .u64 y ∧ q = .int .i64 t ∧ (t : Int) ≤ k - 1 - j ∧ 0 ≤ y ∧ y ≤ 18446744073709551615 ∧ Hid (y = U / 256 ^ t)) (fun _ q => k - (intOf q).toNat)
      case atStart => exact ⟨U, 0, rfl, rfl, by omega, hu0, hu1, Lib.hid (by simp)⟩
      case round =>
        obtain ⟨y, t, rfl, rfl, ht, hy0, hy1, HY⟩ := hrel
        by_cases htl : (t : Int) < k - 1 - j
        · go_wp2
          go_round
          case rel => exact ⟨y / 256, t + 1, rfl, by go_num, by omega, by omega, by omega, Lib.hid (div_next U y t HY.out)⟩
          case measure => simp [intOf]; omega
        · have hy : y % 256 = ((byteI (n / 256 ^ (k - 1 - j))).toNat : Int) := by
            have e : t = k - 1 - j := by omega
            refine HL.out y (k - 1 - j) (by omega) ?_
            rw [← e, ← HU.out]
            exact HY.out
          have ht2 := HT.out j hlt
          have hn2 := HLEN.out j
          have HO1 := Lib.hid (HO.out.alloc (.cells #[.int .u8 (y % 256)] 5))
          have HS1 := Lib.hid (SlV.new wr [.int .u8 (y % 256)] 5 (by simp [maxLen]))
          have HNX := Lib.hid (show vs ++ u8s ((be n k).take (j + 1)) = (vs ++ u8s ((be n k).take j)) ++ [.int .u8 (y % 256)] by rw [ht2, hy, List.append_assoc])
          have hbw := HB.out.size
          clear hy ht2
          generalize vs ++ u8s ((be n k).take j) = done at HO HO1 HNX hn2
          have c2 : done.length + [Value.int .u8 (y % 256)].length ≤ maxLen := by simp [maxLen]; omega
          have c3 : (done.length + [Value.int .u8 (y % 256)].length) * 1 ≤ 140737488355328 := by simp; omega
          have c4 : w.heap.size ≤ (wr.alloc (.cells #[.int .u8 (y % 256)] 5)).heap.size := by simp; omega
          have C1 := Lib.hid (show ∀ z ∈ [Value.int .u8 (y % 256)], z.oneCell' = true by simp [Value.oneCell'])
          go_wp2_with (at_builtin; go_must (refine wpList_append_slv _ rfl (.tmp 38) (.tmp 42) _ rfl w.heap.size 5 i0 (.int .u8 0) 1 Tryz.underlying35 hi hz0 hz1 hz2 rfl _ done rfl HO1.out _ _ [.int .u8 (y % 256)] rfl HS1.out C1.out c2 c3 c4 ?_); intro v2 w2 hown2 hg2)
          have HO2 := Lib.hid (show w2.ownsRow w.heap.size 5 1 v2 (vs ++ u8s ((be n k).take (j + 1))).length (vs ++ u8s ((be n k).take (j + 1))) by rw [HNX.out]; exact hown2)
          have HB2 := Lib.hid (show Below w.heap.size w w2 from (HB.out.alloc hbw _).grown hg2 c4 (fun q hq => (HO.out.lt q hq).1))
          clear hown2 hg2
          go_roundw
          case rel => exact ⟨j + 1, by omega, by go_num, HO2, HB2⟩
          case measure => simp [intOf]; omega
    · obtain rfl : j = k := by omega
      go_wp2
      go_ret
      exact ⟨_, rfl, by rw [← HE.out]; exact HO.out, HB.out⟩

set_option maxRecDepth 100000 in
set_option maxHeartbeats 1000000 in
theorem rput_no (n k : Int) (vs : List Value) (w : World) (hl : vs.length ≤ 1099511627000) (hk : k < 1 ∨ 8 < k) (v : Value) (h : SlV w w.heap.size v vs) (h1 : ∀ u ∈ vs, u.oneCell' = true) :
    Calls Tryz.prog 79 #[v, .int .i64 n, .int .i64 k] w (Owns w vs) := by
  obtain ⟨i0, hi, hz0, hz1, hz2⟩ := info_parts info5
  have HN := Lib.hid (World.ownsRow_nil w w.heap.size 5 1)
  have HS := Lib.hid h
  have H1 := Lib.hid h1
  have c2 : ([] : List Value).length + vs.length ≤ maxLen := by simp [maxLen]; omega
  have c3 : (([] : List Value).length + vs.length) * 1 ≤ 140737488355328 := by simp; omega
  have hv : ∃ A c, v = .slice A vs.length c := by
    cases h with
    | nil => exact ⟨none, 0, rfl⟩
    | at_ ad cap _ _ _ _ => exact ⟨_, _, rfl⟩
  obtain ⟨A, c, rfl⟩ := hv
  clear h h1
  rcases hk with hk | hk
  · go_enter Tryz.func79, Tryz.ntmps79
    go_wp2_with (at_builtin; go_must (refine wpList_append_slv _ rfl (.tmp 12) (.tmp 13) _ rfl w.heap.size 5 i0 (.int .u8 0) 1 Tryz.underlying35 hi hz0 hz1 hz2 rfl (.slice none 0 0) [] rfl HN.out w.heap.size _ vs rfl HS.out H1.out c2 c3 (Nat.le_refl _) ?_); intro v1 w1 hown1 hg1)
    go_ret
    exact ⟨_, rfl, by simpa using hown1, (Below.refl w.heap.size w).grown hg1 (Nat.le_refl _) (fun q hq => by cases hq)⟩
  · have d1 : decide (k < 1) = false := by simp; omega
    have d2 : ¬ k < 1 := by omega
    have d3 : decide (8 < k) = true := by simp; omega
    go_enter Tryz.func79, Tryz.ntmps79
    go_wp2_with (at_builtin; go_must (refine wpList_append_slv _ rfl (.tmp 12) (.tmp 13) _ rfl w.heap.size 5 i0 (.int .u8 0) 1 Tryz.underlying35 hi hz0 hz1 hz2 rfl (.slice none 0 0) [] rfl HN.out w.heap.size _ vs rfl HS.out H1.out c2 c3 (Nat.le_refl _) ?_); intro v1 w1 hown1 hg1)
    go_ret
    exact ⟨_, rfl, by simpa using hown1, (Below.refl w.heap.size w).grown hg1 (Nat.le_refl _) (fun q hq => by cases hq)⟩

/-- The document's own Put, whatever the width. -/
theorem rput_any (v : Value) (vs : List Value) (n k : Int) (w : World) (h : SlV w w.heap.size v vs) (h1 : ∀ u ∈ vs, u.oneCell' = true) (hl : vs.length ≤ 1099511627000) :
    Calls Tryz.prog 79 #[v, .int .i64 n, .int .i64 k] w (Owns w (vs ++ u8s (putB n k))) := by
  unfold putB
  by_cases hk : 1 ≤ k ∧ k ≤ 8
  · rw [if_pos hk]
    have hv : ∃ A c, v = .slice A vs.length c := by
      cases h with
      | nil => exact ⟨none, 0, rfl⟩
      | at_ ad cap _ _ _ _ => exact ⟨_, _, rfl⟩
    obtain ⟨A, c, rfl⟩ := hv
    obtain ⟨j, rfl⟩ := Int.eq_ofNat_of_zero_le (show 0 ≤ k by omega)
    exact rput_yes n j vs w hl hk.1 hk.2 A c h h1
  · rw [if_neg hk]
    have := rput_no n k vs w hl (by omega) v h h1
    simpa [u8s] using this

theorem putB_one (q : Nat) (h : q ≤ 255) : putB (q : Int) 1 = [UInt8.ofNat q] := by
  unfold putB
  rw [if_pos (by omega)]
  have e : ((q : Int) % 256).toNat = q := by omega
  simp [be, byteI, e]

theorem textB_short (s : ByteArray) (h : s.size ≤ 255) : textB s = UInt8.ofNat s.size :: s.data.toList := by
  unfold textB
  rw [Nat.min_eq_left h, List.take_of_length_le (by rw [← size_list]; exact h)]

theorem textB_long (s : ByteArray) (h : 255 < s.size) : textB s = UInt8.ofNat 255 :: (s.extract 0 255).data.toList := by
  unfold textB
  rw [Nat.min_eq_right (by omega), Lib.extract_data]
  simp

end Go.Proofs.YtbknmapkdjmcjaaGreatDoor.By
