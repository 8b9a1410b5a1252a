/-
  WALKS of layer 13: the document's own Put.
-/
import Derived.Test.YtckpbdphilifoaaWm
import Derived.Test.YtckpbdphilifoaaRp
namespace Go.Proofs.Ytckpbdphilifoaa.By
open Go.RowKit
open Mem Gm Rf
set_option linter.unusedSimpArgs false

theorem rflag_any (b : Bool) (w : World) : Calls Try.prog 42 #[.bool b] w fun e w' => e = .returned (.int .i64 (fl b)) ∧ w = w' := by
  cases b
  all_goals
    go_enter Try.func42, Try.ntmps42
    go_wp2
    go_ret
    exact ⟨rfl, rfl⟩

theorem rnB_is (x : Rn) : rnB x = putB x.1 2 ++ putB x.2.1 2 ++ putB x.2.2.1 2 ++ putB x.2.2.2.2 2 ++ putB (fl x.2.2.2.1) 1 := by
  unfold rnB rnK
  simp

/-- A row of bytes of the call's own. -/
def Ob (W : World) (base : Nat) (v : Value) (l : List UInt8) : Prop := W.ownsRow base 5 1 v (u8s l).length (u8s l)

set_option maxRecDepth 100000 in
set_option maxHeartbeats 1000000 in
theorem rputRuns_any (w : World) (A A2 : Option Addr) (n c m c2 : Nat) (l : List Rn) (bs : List UInt8) (h : RnL w A n c l) (hn : n ≤ 100000) (hm : bs.length = m) (hb : SlV w w.heap.size (.slice A2 m c2) (u8s bs)) (hbl : m ≤ 100000) :
    Calls Try.prog 20 #[.slice A2 m c2, .slice A n c] w (Owns w (u8s bs ++ u8s (tabB l n))) := by
  have HP := Lib.hid (show ∀ W v (l : List UInt8) (z k : Int), SlV W W.heap.size v (u8s l) → l.length ≤ 10000000 → Calls Try.prog 41 #[v, .int .i64 z, .int .i64 k] W fun e w' => ∃ v', e = .returned v' ∧ Ob w' W.heap.size v' (l ++ putB z k) ∧ Below W.heap.size W w' from fun W v l z k h hl => by
    have := rput_any v (u8s l) z k W h (u8s_one l) (by rw [u8s_length]; omega)
    rw [← u8s_append] at this; exact this)
  have HR := Lib.hid (fun W (hb : Below w.heap.size w W) i (hi : i < n) => (h.on hb).at_ hi)
  have HL := Lib.hid (show l.length = n from h.1)
  have HF := Lib.hid (fun b => rflag_any b)
  have HBL := Lib.hid (show bs.length ≤ 100000 by omega)
  have HSB := Lib.hid hb
  have HTL := Lib.hid (show ∀ k, (bs ++ putB (n : Int) 2 ++ rnsB (l.take k)).length ≤ 1100000 from fun k => by
    have : (l.take k).length ≤ n := by rw [List.length_take, h.1]; omega
    rw [List.length_append, List.length_append, putB2, rnsB_len]; omega)
  clear h hb
  go_enter Try.func20, Try.ntmps20
  go_wp2_with (go_at_call 41; refine (HP.out _ _ _ _ _ HSB.out (by have := HBL.out; omega)).mono ?_; rintro e w1 ⟨v1, rfl, ho1, hb1⟩; have HO1 := Lib.hid ho1; have HB1 := Lib.hid hb1; clear ho1 hb1)
  go_loopw [0, 5] (fun v i wr => ∃ k : Nat, k ≤ n ∧ i = .int .i64 (k : Int) ∧ Ob wr w.heap.size v (bs ++ putB (n : Int) 2 ++ rnsB (l.take k)) ∧ Below w.heap.size w wr) (fun _ i _ => n - (intOf i).toNat)
  case atStart => exact ⟨0, Nat.zero_le _, rfl, by rw [List.take_zero, show rnsB [] = [] from rfl, List.append_nil]; exact HO1.out, HB1.out⟩
  case round =>
    obtain ⟨k, hk, rfl, hown, hbel⟩ := hrel
    have HOW := Lib.hid hown
    have HBE := Lib.hid hbel
    by_cases hlt : k < n
    · have hkI : (k : Int) < (n : Int) := by omega
      have HNX := Lib.hid (rnsB_next (l := l) (k := k) (by rw [HL.out]; exact hlt))
      have HRD := Lib.hid (fun W hb => HR.out W hb k hlt)
      have HTK := Lib.hid (HTL.out k)
      obtain ⟨ad, had⟩ : ∃ ad, A = some ad := (HRD.out wr hbel).imp fun _ h => h.1
      subst had
      have HNX2 := Lib.hid (show bs ++ putB (n : Int) 2 ++ rnsB (l.take (k + 1)) = bs ++ putB (n : Int) 2 ++ rnsB (l.take k) ++ rnB (rnAt l k) by rw [HNX.out]; simp [List.append_assoc])
      obtain ⟨T, hT⟩ : ∃ T, bs ++ putB (n : Int) 2 ++ rnsB (l.take k) = T := ⟨_, rfl⟩
      rw [hT] at HOW HTK HNX2
      clear hT HNX
      obtain ⟨x, hx⟩ : ∃ x, rnAt l k = x := ⟨_, rfl⟩
      rw [hx] at HNX2 HRD
      clear hx
      obtain ⟨ad1, e1, _, c0, c1, c2', c3, c4⟩ := HRD.out wr hbel
      injection e1 with e1
      subst e1
      clear hown hbel
      go_wp2_with fail
      refine (HP.out _ _ _ _ _ (SlV.of_own HOW.out) (by have := HTK.out; (try simp only [List.length_append, putB2]); omega)).mono ?_
      rintro e w2 ⟨v2, rfl, ho2, hb2⟩
      have HO22 := Lib.hid ho2
      have HB22 := Lib.hid (to_ HBE.out hb2)
      obtain ⟨ad1, e1, _, c0, c1, c2', c3, c4⟩ := HRD.out w2 HB22.out
      injection e1 with e1
      subst e1
      clear ho2 hb2
      go_wp2_with fail
      refine (HP.out _ _ _ _ _ (SlV.of_own HO22.out) (by have := HTK.out; (try simp only [List.length_append, putB2]); omega)).mono ?_
      rintro e w3 ⟨v3, rfl, ho3, hb3⟩
      have HO23 := Lib.hid ho3
      have HB23 := Lib.hid (to_ HB22.out hb3)
      obtain ⟨ad1, e1, _, c0, c1, c2', c3, c4⟩ := HRD.out w3 HB23.out
      injection e1 with e1
      subst e1
      clear ho3 hb3
      go_wp2_with fail
      refine (HP.out _ _ _ _ _ (SlV.of_own HO23.out) (by have := HTK.out; (try simp only [List.length_append, putB2]); omega)).mono ?_
      rintro e w4 ⟨v4, rfl, ho4, hb4⟩
      have HO24 := Lib.hid ho4
      have HB24 := Lib.hid (to_ HB23.out hb4)
      obtain ⟨ad1, e1, _, c0, c1, c2', c3, c4⟩ := HRD.out w4 HB24.out
      injection e1 with e1
      subst e1
      clear ho4 hb4
      go_wp2_with fail
      refine (HP.out _ _ _ _ _ (SlV.of_own HO24.out) (by have := HTK.out; (try simp only [List.length_append, putB2]); omega)).mono ?_
      rintro e w5 ⟨v5, rfl, ho5, hb5⟩
      have HO25 := Lib.hid ho5
      have HB25 := Lib.hid (to_ HB24.out hb5)
      obtain ⟨ad1, e1, _, c0, c1, c2', c3, c4⟩ := HRD.out w5 HB25.out
      injection e1 with e1
      subst e1
      clear ho5 hb5
      go_wp2_with fail
      refine (HF.out _ _).mono ?_
      rintro e w9 ⟨rfl, rfl⟩
      go_wp2_with fail
      refine (HP.out _ _ _ _ _ (SlV.of_own HO25.out) (by have := HTK.out; (try simp only [List.length_append, putB2]); omega)).mono ?_
      rintro e w6 ⟨v6, rfl, ho6, hb6⟩
      have HO26 := Lib.hid ho6
      have HB26 := Lib.hid (to_ HB25.out hb6)
      clear ho6 hb6
      go_wp2_with fail
      go_roundw
      case rel =>
        refine ⟨k + 1, by omega, by go_num, ?_, HB26.out⟩
        have h9 := HO26.out
        rw [HNX2.out, rnB_is]
        have h10 : Ob w6 w.heap.size v6 _ := own_base h9 HB25.out.size
        simpa [List.append_assoc] using h10
      case measure => simp [intOf]; omega
    · obtain rfl : k = n := by omega
      rw [show l.take k = l from List.take_of_length_le (by rw [HL.out]; exact Nat.le_refl _)] at HOW
      clear hown hbel
      go_wp2_with fail
      go_ret
      refine ⟨_, rfl, ?_, HBE.out⟩
      have h9 := HOW.out
      unfold Ob at h9
      rw [← u8s_append]
      unfold tabB
      rw [← List.append_assoc]
      exact h9
end Go.Proofs.Ytckpbdphilifoaa.By
