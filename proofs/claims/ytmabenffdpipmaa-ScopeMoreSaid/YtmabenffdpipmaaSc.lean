/-
  WALK of layer 23: what symbols hands back tells each symbol.
-/
import Derived.Test.YtmabenffdpipmaaSb
namespace Go.Proofs.Ytmabenffdpipmaa.By
open Go.RowKit
open Mem Rf
attribute [local go_sem] Oper.semAt_some

def gsE (x : Gs) : Array Value := #[plV x.1, syV x.2]
def lists (os : List Ob) : List (List Sy) := os.map (·.l)
theorem lists_length (os : List Ob) : (lists os).length = os.length := by simp [lists]
theorem rowS_lists {os : List Ob} {i : Nat} (h : i < os.length) : rowS (lists os) i = (obAt os i).l := by
  unfold rowS lists obAt
  rw [List.getD_eq_getElem?_getD, List.getD_eq_getElem?_getD, List.getElem?_map, List.getElem?_eq_getElem h]; rfl

set_option maxRecDepth 100000 in
set_option maxHeartbeats 2000000 in
theorem symbols1_in (q : Nat) (l Bg B : Nat) (A : Option Addr) (n c : Nat) (os : List Ob) (J Jx : List Gs → World → Prop) (U : Nat → Prop) (hUB : ∀ k, k < B → U k)
    (hJ : ∀ s X (o : Obj), J s X → J s (X.alloc o))
    (hY : ∀ pre x W1, J pre W1 → pre ++ [x] <+: allS (lists os) → YieldAt Fence.wide (q - 1) Try.prog l (gsE x) W1 fun e W' =>
      (e = .returned (.bool true) ∧ J (pre ++ [x]) W' ∧ Keeps U W1 W') ∨ (e = .returned (.bool false) ∧ Jx (pre ++ [x]) W'))
    (W : World) (hBg : W.cell? ⟨Bg, 0, none⟩ = some (.slice A n c)) (hO : ObL W B A n c os) (h0 : J [] W) :
    CallsIn Fence.wide q Try.prog 28 #[.func (.yield l) #[] #[], .pointer (some ⟨Bg, 0, none⟩)] W fun e W' => (∃ v, e = .returned v) ∧
      (J (allS (lists os)) W' ∨ ∃ pre, pre <+: allS (lists os) ∧ Jx pre W') := by
  have hlen : (lists os).length = n := by rw [lists_length, hO.1.1]
  have hall := upTo_all (lists os)
  rw [hlen] at hall
  have hstart : upTo (lists os) 0 0 = [] := by simp [upTo]
  have h0' : J (upTo (lists os) 0 0) W := by rw [hstart]; exact h0
  have hmax := hO.1.few
  have hrow : ∀ i, i < n → rowS (lists os) i = (obAt os i).l := fun i hi => rowS_lists (by rw [hO.1.1]; exact hi)
  have hnxt : ∀ i, i < n → upTo (lists os) i (obAt os i).n = upTo (lists os) (i + 1) 0 := fun i hi => by rw [← upTo_next, hrow i hi, (hO.2 i hi).1]
  have hmore : ∀ i j, i < n → j < (obAt os i).n → upTo (lists os) i (j + 1) = upTo (lists os) i j ++ [((i, j), syAt (obAt os i).l j)] := fun i j hi hj => by
    rw [upTo_more _ _ _ (by rw [hrow i hi, (hO.2 i hi).1]; exact hj), atS, hrow i hi]
  have hin : ∀ i j, i < n → upTo (lists os) i j <+: allS (lists os) := fun i j hi => upTo_in _ (by rw [hlen]; exact hi)
  clear hstart h0 hlen
  generalize lists os = L at *
  have HO := Lib.hid hO
  have HUB := Lib.hid hUB
  have HY := Lib.hid hY
  have HJ := Lib.hid hJ
  have HA := Lib.hid hall
  have HNX := Lib.hid hnxt
  have HMO := Lib.hid hmore
  have HIN := Lib.hid hin
  clear hO hUB hY hJ hall hnxt hmore hin hrow
  refine callsIn_of_wp Try.func28 rfl trivial ?_ rfl
  simp only [Try.ntmps28, List.size_toArray, List.length_cons, List.length_nil, Nat.reduceAdd, Nat.reduceSub, Array.replicate_succ, Array.replicate_zero, List.push_toArray, List.append_toArray, List.nil_append, List.cons_append]
  gi_wp2
  gi_loopw [9] (fun i wr => ∃ k : Nat, k ≤ n ∧ i = .int .i64 k ∧ J (upTo L k 0) wr ∧ Keeps U W wr) (fun i _ => n - (intOf i).toNat)
  case atStart => exact ⟨0, Nat.zero_le _, rfl, h0', Keeps.refl _ _⟩
  case round =>
    obtain ⟨k, hk, rfl, hJ, hK⟩ := hrel
    by_cases hlt : k < n
    · obtain ⟨ad, hA, hblk, c0, c1, c2⟩ := HO.out.at_ hlt
      subst hA
      have hsy := HO.out.2 k hlt
      have HNK := Lib.hid (HNX.out k hlt)
      have HMK := Lib.hid (fun j => HMO.out k j hlt)
      have HIK := Lib.hid (fun j => HIN.out k j hlt)
      obtain ⟨o, ho⟩ : ∃ o, obAt os k = o := ⟨_, rfl⟩
      rw [ho] at c0 c1 c2 hsy HNK HMK
      obtain ⟨oA, on, oc, ol, ⟨fA, fn, fc⟩, ⟨dA, dn, dc⟩⟩ := o
      unfold slV at c1 c2
      dsimp only at c0 c1 c2 hsy HNK HMK
      clear ho
      have c0 := hK.cell (HUB.out _ (by rw [add_block]; exact hblk)) c0
      have c1 := hK.cell (HUB.out _ (by show (ad.add (k * 3)).block < B; rw [add_block]; exact hblk)) c1
      have c2 := hK.cell (HUB.out _ (by show (ad.add (k * 3)).block < B; rw [add_block]; exact hblk)) c2
      have hmM : on ≤ 9223372036854775807 := hsy.few
      have HS := Lib.hid hsy
      have HJ0 := Lib.hid hJ
      have HK0 := Lib.hid hK
      have hkI : (k : Int) < (n : Int) := by omega
      clear hsy hJ hK
      obtain ⟨wo, hwo⟩ : ∃ wo, wo = wr := ⟨_, rfl⟩
      subst hwo
      gi_wp2
      gi_loopw [17] (fun i wr => ∃ j : Nat, j ≤ on ∧ i = .int .i64 j ∧ J (upTo L k j) wr ∧ Keeps U W wr) (fun i _ => on - (intOf i).toNat)
      case atStart => exact ⟨0, Nat.zero_le _, rfl, HJ.out _ _ _ HJ0.out, HK0.out.alloc _⟩
      case round =>
        obtain ⟨j, hj, rfl, hJ2, hK2⟩ := hrel
        by_cases hjl : j < on
        · obtain ⟨ad2, e2, hb2, s0, s1, s2, s3, s4⟩ := syl_at HS.out hjl
          subst e2
          have s0 := hK2.cell (HUB.out _ (by rw [add_block]; exact hb2)) s0
          have s1 := hK2.cell (HUB.out _ (by show (ad2.add (j * 5)).block < B; rw [add_block]; exact hb2)) s1
          have s2 := hK2.cell (HUB.out _ (by show (ad2.add (j * 5)).block < B; rw [add_block]; exact hb2)) s2
          have s3 := hK2.cell (HUB.out _ (by show (ad2.add (j * 5)).block < B; rw [add_block]; exact hb2)) s3
          have s4 := hK2.cell (HUB.out _ (by show (ad2.add (j * 5)).block < B; rw [add_block]; exact hb2)) s4
          have HE := Lib.hid (HMK.out j hjl)
          have hpre : upTo L k j ++ [((k, j), syAt ol j)] <+: allS L := by rw [← HE.out]; exact HIK.out _
          obtain ⟨W2, hW2⟩ : ∃ W2, W2 = wr.alloc (.cells (encSy (syAt ol j)).toArray 42) := ⟨_, rfl⟩
          obtain ⟨fn, tmps, assign, body, hy, hR⟩ := HY.out _ ((k, j), syAt ol j) W2 (hW2 ▸ HJ.out _ _ _ hJ2) hpre
          have HK2 := Lib.hid (show Keeps U W W2 from hW2 ▸ hK2.alloc _)
          rw [hW2] at hy hR
          unfold gsE plV syV encSy at hy
          unfold encSy at hR
          dsimp only at hy hR
          have HR := Lib.hid hR
          have HPRE := Lib.hid hpre
          clear hR hpre hJ2 hK2
          generalize syAt ol j = s at *
          obtain ⟨y0, y1, y2, y3, y4⟩ := s
          dsimp only at s0 s1 s2 s3 s4 hy
          have hjI : (j : Int) < (on : Int) := by omega
          have HK3 := Lib.hid (show Keeps U W (wr.alloc (.cells #[.string y0, .bool y1, .int .i64 y2, .int .i64 y3, .int .i64 y4] 42)) from hW2 ▸ HK2.out)
          clear hW2 HK2
          gi_wp2
          refine ⟨fun h => (by cases h), HR.out.mono ?_⟩
          rintro e W3 (⟨rfl, hJ4, hk4⟩ | ⟨rfl, hJx4⟩)
          · gi_wp2
            go_roundw
            case rel => exact ⟨j + 1, by omega, by go_num, by rw [HE.out]; exact hJ4, HK3.out.trans hk4⟩
            case measure => simp [intOf]; omega
          · gi_wp2
            refine bodyPost_ret (results_none rfl _ _ _) rfl ?_
            exact ⟨⟨_, rfl⟩, .inr ⟨_, HPRE.out, hJx4⟩⟩
        · obtain rfl : j = on := by omega
          have hJ3 : J (upTo L (k + 1) 0) wr := by rw [← HNK.out]; exact hJ2
          gi_wp2
          go_roundw
          case rel => exact ⟨k + 1, by omega, by go_num, hJ3, hK2⟩
          case measure => simp [intOf]; omega
    · obtain rfl : k = n := by omega
      rw [HA.out] at hJ
      gi_wp2
      go_end0
      exact ⟨⟨_, rfl⟩, .inl hJ⟩
end Go.Proofs.Ytmabenffdpipmaa.By
