/-
  WALKS: sum.give, sum.Of and the document's own Of: the sum of the bytes.
-/
import Derived.Test.YtlpmndljjdljmaaAd
namespace Go.Proofs.Ytlpmndljjdljmaa.By
open Go.ChangeShapes Go.WideShapes Go.ChangeAt Go.RowKit
open Mem Sm

theorem give_one (w : World) (g : Nat) (l m : List UInt8) (B : Nat) (v : Value) (G : Nat) (h : Adr w g l) (hs : SlV w B v (u8s m)) (hne : ∀ ad n c, v = .slice (some ad) n c → n ≠ 0 → ad.block ≠ g) (hG : w.cell? ⟨G, 0, none⟩ = some v) :
    Calls Try.prog 36 #[.func (.func 25) #[.pointer (some ⟨g, 0, none⟩)] #[], .slice (some ⟨G, 0, none⟩) 1 1] w fun e w' => e = .returned (.tuple #[]) ∧ Adr w' g (l ++ m) ∧ w.grownBy w' (some g) := by
  have HA := Lib.hid (add_any w g l m B v h hs hne)
  have hv := hs.form
  rw [u8s_length] at hv
  obtain ⟨A, c, rfl⟩ := hv
  clear h hs hne
  generalize m.length = n at hG HA
  go_enter Try.func36, Try.ntmps36
  go_wp2_with fail
  refine wp_loop_rounds 2 ?_
  rw [rounds_succ]
  go_wp2_with fail
  refine HA.out.mono ?_
  rintro e w1 ⟨rfl, ha, hg⟩
  have HX := Lib.hid ha
  have HY := Lib.hid hg
  clear ha hg
  go_wp2_with fail
  rw [rounds_succ]
  go_wp2_with fail
  go_end0
  exact ⟨rfl, HX.out, HY.out⟩

theorem of_any (w : World) (m : List UInt8) (B : Nat) (v : Value) (hs : SlV w B v (u8s m)) (hB : B ≤ w.heap.size) :
    Calls Try.prog 20 #[v] w fun e w' => e = .returned (.int .i64 (sumV m : Int)) ∧ Below w.heap.size w w' := by
  have hb0 : Below w.heap.size w (w.alloc (.cells #[.int .i64 1, .int .i64 0, .bool true] 51)) := (Below.refl _ _).alloc (Nat.le_refl _) _
  have hb1 : Below w.heap.size w ((w.alloc (.cells #[.int .i64 1, .int .i64 0, .bool true] 51)).alloc (.cells #[v] 22)) := hb0.alloc (by simp) _
  have HG := Lib.hid (give_one ((w.alloc (.cells #[.int .i64 1, .int .i64 0, .bool true] 51)).alloc (.cells #[v] 22)) w.heap.size [] m B v (w.heap.size + 1) (Blk.alloc (Blk.new _ _ _) _) (hs.keep fun p hp => hb1.cell (by omega)) (slv_far hs hB) (by
    have := (Blk.new (w.alloc (.cells #[.int .i64 1, .int .i64 0, .bool true] 51)) 22 #[v]).cell 0
    rw [World.size_alloc] at this
    exact this))
  have HB := Lib.hid hb1
  have hv := hs.form
  rw [u8s_length] at hv
  obtain ⟨A, c, rfl⟩ := hv
  clear hb0 hb1 hs
  generalize m.length = n at HG HB ⊢
  go_enter Try.func20, Try.ntmps20
  go_wp2_with fail
  refine (new_adder _).mono ?_
  rintro e w1 ⟨rfl, _, rfl⟩
  go_wp2_with fail
  refine HG.out.mono ?_
  rintro e w2 ⟨rfl, ha, hg⟩
  rw [List.nil_append] at ha
  have HA := Lib.hid ha
  have HB2 := Lib.hid (below_of_only HB.out hg (by simp; omega) (Nat.le_refl _))
  clear ha hg
  go_wp2_with fail
  refine (sum_any _ _ _ HA.out).mono ?_
  rintro e w3 ⟨rfl, q, rfl⟩
  go_wp2_with fail
  go_ret
  exact ⟨rfl, below_drewN HB2.out q⟩

set_option maxHeartbeats 1000000 in
theorem rof_any (w : World) (m : List UInt8) (B : Nat) (v : Value) (hs : SlV w B v (u8s m)) (hl : m.length ≤ 1099511627776) :
    Calls Try.prog 21 #[v] w fun e w' => e = .returned (.int .i64 (sumV m : Int)) ∧ ∃ n, w' = w.drewN n := by
  have HV := Lib.hid hs
  have hv := hs.form
  rw [u8s_length] at hv
  obtain ⟨A, c, rfl⟩ := hv
  have HC := Lib.hid (show ∀ j (hj : j < m.length), ∃ ad, A = some ad ∧ m.length ≤ c ∧ w.cell? (ad.add j) = some (.int .u8 (m[j].toNat : Int)) from fun j hj => by
    rcases hs.inv with ⟨_, h0, _⟩ | ⟨ad, e, _, h2, _, hr⟩
    · omega
    · exact ⟨ad, e, h2, (hr j _ (by simp [u8s, hj])).2⟩)
  clear hs
  obtain ⟨n, hn⟩ : ∃ n, m.length = n := ⟨_, rfl⟩
  have HN := Lib.hid hn
  clear HV
  rw [hn] at hl ⊢
  clear hn
  go_enter Try.func21, Try.ntmps21
  go_wp2_with fail
  go_loop [3, 4, 5] (fun x y i => ∃ k : Nat, k ≤ n ∧ i = .int .i64 k ∧ x = .int .i64 ((sm (m.take k)).1 : Int) ∧ y = .int .i64 ((sm (m.take k)).2 : Int)) (fun _ _ i => n - (intOf i).toNat)
  case atStart => exact ⟨0, by omega, rfl, rfl, rfl⟩
  case round =>
    obtain ⟨k, hk, rfl, rfl, rfl⟩ := hrel
    have hlm := sm_lt (m.take k)
    have hl1 := hlm.1
    have hl2 := hlm.2
    clear hlm
    by_cases hlt : k < n
    · have hkm : k < m.length := by rw [HN.out]; exact hlt
      obtain ⟨ad, rfl, hnc, hx⟩ := HC.out k hkm
      rw [HN.out] at hnc
      have hb := m[k].toNat_lt
      have N1 := Lib.hid (next1 [] m k hkm)
      have N2 := Lib.hid (next2 [] m k hkm)
      rw [List.nil_append, List.nil_append] at N1 N2
      generalize m[k].toNat = y at hx hb N1
      generalize (sm (m.take k)).1 = a at hl1 N1 ⊢
      generalize (sm (m.take k)).2 = b at hl2 N2 ⊢
      clear hkm
      go_wp2_with fail
      go_round
      case rel =>
        refine ⟨k + 1, by omega, by go_num, ?_, ?_⟩
        · rw [N1.out]; go_num
        · rw [N2.out, N1.out]; go_num
      case measure => simp [intOf]; omega
    · obtain rfl : k = n := by omega
      have HE := Lib.hid (show ((sumV m : Nat) : Int) = (((sm (m.take k)).2 * 65536 + (sm (m.take k)).1 : Nat) : Int) by rw [List.take_of_length_le (by have := HN.out; omega)]; rfl)
      generalize (sm (m.take k)).1 = a at hl1 HE ⊢
      generalize (sm (m.take k)).2 = b at hl2 HE ⊢
      go_wp2_with fail
      go_ret
      exact ⟨by rw [HE.out]; go_num, 0, rfl⟩
end Go.Proofs.Ytlpmndljjdljmaa.By
