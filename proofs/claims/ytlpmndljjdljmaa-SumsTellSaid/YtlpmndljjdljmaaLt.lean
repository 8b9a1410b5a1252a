/-
  WALK: the law SumsTell, of any bytes that came in.
-/
import Derived.Test.YtlpmndljjdljmaaKs
namespace Go.Proofs.Ytlpmndljjdljmaa.By
open Go.ChangeShapes Go.WideShapes Go.ChangeAt Go.RowKit
open Mem Sm

theorem own_below {B : Nat} {e : TypeId} {k : Nat} {v : Value} {n : Nat} {xs : List Value} {w w' : World} (h : w.ownsRow B e k v n xs) (hb : Below w.heap.size w w') : w'.ownsRow B e k v n xs := by
  refine ⟨h.1, ?_⟩
  rcases h.2 with hn | ⟨g, cap, cur, hv, hg, hh, r⟩
  · exact .inl hn
  · exact .inr ⟨g, cap, cur, hv, hg, (hb.block g (Array.getElem?_eq_some_iff.1 hh).1).trans hh, r⟩

theorem own_form {B : Nat} {e : TypeId} {v : Value} {n : Nat} {xs : List Value} {w : World} (h : w.ownsRow B e 1 v n xs) (hn : 0 < n) : ∃ g cap, v = .slice (some ⟨g, 0, none⟩) n cap ∧ n ≤ cap ∧ cap ≤ maxLen ∧ B ≤ g ∧ g < w.heap.size := by
  rcases h.2 with ⟨_, h0⟩ | ⟨g, cap, cur, hv, hg, hh, hc, hm, _⟩
  · omega
  · exact ⟨g, cap, hv, hc, hm, hg, (Array.getElem?_eq_some_iff.1 hh).1⟩

/-- The byte that is another one. -/
def bump (x : UInt8) (b : Int) : UInt8 := UInt8.ofNat (((x.toNat : Int) + b) % 256).toNat

theorem bump_toNat (x : UInt8) (b : Int) : ((bump x b).toNat : Int) = ((x.toNat : Int) + b) % 256 := by
  unfold bump
  have h : (((x.toNat : Int) + b) % 256).toNat < 256 := by omega
  simp
  omega

theorem bump_ne (x : UInt8) (b : Int) (h : 0 < b ∧ b < 256) : bump x b ≠ x := by
  intro e
  have h1 := bump_toNat x b
  rw [e] at h1
  have := x.toNat_lt
  omega

theorem tell_big (w : World) (n c : Nat) (A : Option Addr) (a1 a2 : Int) (hd : decide (3000 < (n : Int)) = true) :
    Calls Try.prog 5 #[.slice A n c, .int .i64 a1, .int .u8 a2] w fun e w' => e = .returned (.bool true) ∧ Below w.heap.size w w' := by
  go_enter Try.func5, Try.ntmps5
  go_wp2_with fail
  refine (known_sum _).mono ?_
  rintro e w1 ⟨rfl, hb⟩
  go_wp2_with fail
  go_ret
  exact ⟨rfl, hb⟩

set_option maxHeartbeats 2000000 in
theorem tell_small (w : World) (l : List UInt8) (A : Option Addr) (c : Nat) (a1 a2 : Int) (h : SlV w w.heap.size (.slice A l.length c) (u8s l)) (hl : l.length ≤ 3000) (hby : 0 ≤ a2 ∧ a2 < 256) :
    Calls Try.prog 5 #[.slice A l.length c, .int .i64 a1, .int .u8 a2] w fun e w' => e = .returned (.bool true) ∧ Below w.heap.size w w' := by
  have hd : decide (3000 < (l.length : Int)) = false := by simp; omega
  have HSE := Lib.hid (seal_any w l _ h (by omega))
  have H := Lib.hid h
  obtain ⟨n, hn⟩ : ∃ n, l.length = n := ⟨_, rfl⟩
  have HT := Lib.hid (show ∀ W B v, SlV W B v (u8s l) → (convert 22 9 v).run Try.prog W = .ok (.string ⟨l.toArray⟩) W from fun _ _ _ h => text_of h)
  generalize hT0 : (⟨l.toArray⟩ : ByteArray) = T0 at HT
  have HN := Lib.hid hn
  rw [hn] at hl hd HSE H ⊢
  clear h hn hT0
  go_enter Try.func5, Try.ntmps5
  go_wp2_with fail
  refine HSE.out.mono ?_
  rintro e w1 ⟨v1, rfl, hown, hb1⟩
  rw [u8s_length, seal_length, HN.out] at hown
  obtain ⟨g, cap, rfl, hnc, hcm, hg0, hg1⟩ := own_form hown (by omega)
  unfold maxLen at hcm
  have HW1 := Lib.hid hown
  have HB1 := Lib.hid hb1
  have ho := open_any w1 (sealB l) _ (SlV.of_own hown) (by rw [seal_length, HN.out]; omega)
  unfold Opens at ho
  rw [(open_seal l).1, (open_seal l).2] at ho
  have HO := Lib.hid ho
  clear ho hown hb1 HSE
  go_wp2_with fail
  refine HO.out.mono ?_
  rintro e w2 ⟨x, rfl, hx, hb2⟩
  have hc1 := HT.out _ _ _ hx
  have HB2 := Lib.hid (HB1.out.trans (hb2.mono HB1.out.size))
  have hc2 := HT.out _ _ _ (H.out.below HB2.out)
  have HW2 := Lib.hid (own_below HW1.out hb2)
  have hg2 := Nat.lt_of_lt_of_le hg1 hb2.size
  clear hx hb2 HO HW1 HB1
  by_cases hbad : a1 < 0 ∨ (n : Int) + 4 ≤ a1 ∨ a2 = 0
  · have hd3 : decide (a1 < 0) = true ∨ (decide (a1 < 0) = false ∧ decide ((n : Int) + 4 ≤ a1) = true) ∨ (decide (a1 < 0) = false ∧ decide ((n : Int) + 4 ≤ a1) = false ∧ (a2 == 0) = true) := by
      by_cases h1 : a1 < 0
      · exact .inl (by simp; omega)
      · by_cases h2 : (n : Int) + 4 ≤ a1
        · exact .inr (.inl ⟨by simp; omega, by simp; omega⟩)
        · exact .inr (.inr ⟨by simp; omega, by simp; omega, by simp; omega⟩)
    clear hbad
    rcases hd3 with h1 | ⟨h1, h2⟩ | ⟨h1, h2, h3⟩
    all_goals
      go_wp2_with fail
      refine (known_sum _).mono ?_
      rintro e w3 ⟨rfl, hb3⟩
      go_wp2_with fail
      go_ret
      exact ⟨rfl, HB2.out.trans (hb3.mono HB2.out.size)⟩
  · obtain ⟨i, rfl⟩ := Int.eq_ofNat_of_zero_le (show 0 ≤ a1 by omega)
    have hi : i < (sealB l).length := by rw [seal_length, HN.out]; omega
    have h1 : decide ((i : Int) < 0) = false := by simp
    have h2 : decide ((n : Int) + 4 ≤ i) = false := by simp; omega
    have h3 : (a2 == 0) = false := by simp; omega
    have hin : i < n + 4 := by omega
    have hcell : w2.cell? ⟨g, i, none⟩ = some (.int .u8 ((sealB l)[i].toNat : Int)) := by
      rw [HW2.out.cellAt i (by omega)]; simp [u8s, hi]
    have hfr := HW2.out.frozenAt i
    have hnb := bump_toNat (sealB l)[i] a2
    have hne := bump_ne (sealB l)[i] a2 (by omega)
    have htold := open_told l i hi (bump (sealB l)[i] a2) hne
    have hst := HW2.out.stored i (.int .u8 ((bump (sealB l)[i] a2).toNat : Int))
    have hset : (u8s (sealB l)).set i (.int .u8 ((bump (sealB l)[i] a2).toNat : Int)) = u8s ((sealB l).set i (bump (sealB l)[i] a2)) := by
      simp [u8s, List.map_set]
    rw [hset, hnb] at hst
    have hxb := (sealB l)[i].toNat_lt
    generalize (sealB l).set i (bump (sealB l)[i] a2) = m at htold hst hset
    have hml : m.length = n + 4 := by
      have := congrArg List.length hset
      rw [List.length_set, u8s_length, u8s_length, seal_length, HN.out] at this
      omega
    generalize (sealB l)[i].toNat = y at hcell hst hxb
    have HW3 := Lib.hid hst
    have HTO := Lib.hid htold
    have HML := Lib.hid hml
    clear hnb hne hset hst htold hml hbad
    have ho := open_any _ m _ (SlV.of_own HW3.out.1) (by rw [HML.out]; omega)
    unfold Opens at ho
    rw [HTO.out.1, HTO.out.2] at ho
    have HO := Lib.hid ho
    have HB3 := Lib.hid (HB2.out.setCell (p := ⟨g, i, none⟩) hg0 (.int .u8 (((y : Int) + a2) % 256)))
    clear ho
    go_wp2_with fail
    refine HO.out.mono ?_
    rintro e w4 ⟨y4, rfl, hy4, hb4⟩
    have HB4 := Lib.hid (HB3.out.trans (hb4.mono HB3.out.size))
    obtain ⟨A4, c4, rfl⟩ := hy4.form
    rw [show (u8s []).length = 0 from rfl]
    clear hy4 hb4 HB3 HO
    go_wp2_with fail
    refine (known_sum _).mono ?_
    rintro e w5 ⟨rfl, hb5⟩
    go_wp2_with fail
    go_ret
    exact ⟨rfl, HB4.out.trans (hb5.mono HB4.out.size)⟩

theorem tell_any (w : World) (l : List UInt8) (A : Option Addr) (c : Nat) (a1 a2 : Int) (h : SlV w w.heap.size (.slice A l.length c) (u8s l)) (hby : 0 ≤ a2 ∧ a2 < 256) :
    Calls Try.prog 5 #[.slice A l.length c, .int .i64 a1, .int .u8 a2] w fun e w' => e = .returned (.bool true) ∧ Below w.heap.size w w' := by
  by_cases hbig : 3000 < l.length
  · exact tell_big w _ c A a1 a2 (by simp; omega)
  · exact tell_small w l A c a1 a2 h (by omega) hby
end Go.Proofs.Ytlpmndljjdljmaa.By
