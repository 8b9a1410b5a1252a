/-
  WALK of layer 12: what fromEnd tells: the places of an order, the last one first, each with its row.
-/
import Derived.Test.YtlfgnoicjogfpaaDi
import Derived.Test.YtlfgnoicjogfpaaGc
import Derived.OrdersIn
namespace Go.Proofs.Ytlfgnoicjogfpaa.By
open Go.RowKit
open Mem Gm Rf
attribute [local go_sem] Oper.semAt_some

def toldE (rv : Nat → Value) (l : List Nat) : List (Nat × Value) := l.reverse.map fun p => (p, rv p)

set_option linter.unusedSimpArgs false in
set_option maxRecDepth 100000 in
set_option maxHeartbeats 8000000 in
theorem fromEnd1_in (n : Nat) (hn : 1 ≤ n) (l0 b1 b2 B L N c c2 : Nat) (A A2 : Option Addr) (l : List Nat) (rv : Nat → Value) (J Jx : List (Nat × Value) → World → Prop) (U : Nat → Prop) (h1 : U b1) (h2 : U b2) (hUB : ∀ k, k < B → U k) (hl : l.length = L) (hl5 : L ≤ 1000)
    (hJ : ∀ s A B, J s A → Keeps (fun _ => True) A B → J s B)
    (hY : ∀ pre x W1, J pre W1 → pre ++ [x] <+: toldE rv l → YieldAt Fence.wide (n - 1) Try.prog l0 #[.int .i64 (x.1 : Int), x.2] W1 fun e W' =>
      (e = .returned (.bool true) ∧ J (pre ++ [x]) W' ∧ Keeps U W1 W') ∨ (e = .returned (.bool false) ∧ Jx (pre ++ [x]) W'))
    (W : World) (hb1 : W.cell? ⟨b1, 0, none⟩ = some (.slice A L c)) (hb2 : W.cell? ⟨b2, 0, none⟩ = some (.slice A2 N c2)) (hL : SlV W B (.slice A L c) (nats l))
    (hR : ∀ p, p < N → ∃ ad A' m' c', A2 = some ad ∧ U (ad.add p).block ∧ W.cell? (ad.add p) = some (rv p) ∧ rv p = .slice A' m' c') (hlt : ∀ p ∈ l, p < N) (h0 : J [] W) :
    CallsIn Fence.wide n Try.prog 120 #[.func (.yield l0) #[] #[], .pointer (some ⟨b1, 0, none⟩), .pointer (some ⟨b2, 0, none⟩)] W fun e W' => (∃ v, e = .returned v) ∧
      (J (toldE rv l) W' ∨ ∃ pre, pre <+: toldE rv l ∧ Jx pre W') := by
  have hC := fun (j s : Nat) (hj : l[j]? = some s) => (show ∃ ad, A = some ad ∧ (ad.add j).block < B ∧ W.cell? (ad.add j) = some (.int .i64 (s : Int)) from by
    rcases hL.inv with ⟨_, h4, _⟩ | ⟨ad, e, _, _, _, hr⟩
    · have := (List.getElem?_eq_some_iff.1 hj).1; omega
    · have h4 := hr j (.int .i64 (s : Int)) (by show (l.map _)[j]? = _; rw [List.getElem?_map, hj]; rfl)
      exact ⟨ad, e, by rw [add_block]; exact h4.1, h4.2⟩)
  have HC := Lib.hid hC
  have HR := Lib.hid hR
  have HUB := Lib.hid hUB
  have HY := Lib.hid hY
  have HJ := Lib.hid hJ
  have HL := Lib.hid hl
  have HLT9 := Lib.hid hlt
  have HB1 := Lib.hid hb1
  have HB2 := Lib.hid hb2
  have hw1 : IntKind.i64.wrap ((L : Int) - 1) = (L : Int) - 1 := IntWalk.i64_in _ ⟨by omega, by omega⟩
  clear hC hR hUB hY hJ hl hlt hL hb2
  refine callsIn_of_wp Try.func120 rfl trivial ?_ rfl
  simp only [Try.ntmps120, List.size_toArray, List.length_cons, List.length_nil, Nat.reduceAdd, Nat.reduceSub, Array.replicate_succ, Array.replicate_zero, List.push_toArray, List.append_toArray, List.nil_append, List.cons_append]
  gi_wp2_with fail
  gi_loopw [4] (fun i wr => ∃ j : Nat, j ≤ L ∧ i = .int .i64 ((L : Int) - 1 - (j : Int)) ∧ J ((toldE rv l).take j) wr ∧ Keeps U W wr) (fun i _ => (intOf i + 1).toNat)
  case atStart => exact ⟨0, Nat.zero_le _, by simp, h0, Keeps.refl _ _⟩
  case round =>
    obtain ⟨j, hj, rfl, hJ, hK⟩ := hrel
    by_cases hlt : j < L
    · obtain ⟨m, hm⟩ : ∃ m : Nat, L = m + 1 + j := ⟨L - 1 - j, by omega⟩
      have hmi : (L : Int) - 1 - (j : Int) = (m : Int) := by omega
      rw [hmi]
      have hml : m < l.length := by rw [HL.out]; omega
      obtain ⟨p, hp⟩ : ∃ p, l[m]? = some p := ⟨_, List.getElem?_eq_getElem hml⟩
      have hrev : l.reverse[j]? = some p := by
        rw [List.getElem?_reverse (by rw [HL.out]; exact hlt), HL.out, show L - 1 - j = m by omega]; exact hp
      obtain ⟨ad, rfl, hab, hca0⟩ := HC.out m p hp
      have hpN := HLT9.out p (List.mem_of_getElem? hp)
      obtain ⟨ad2, A', m', c', rfl, hab2, hcr0, hrv⟩ := HR.out p hpN
      have hca : wr.drew.cell? (ad.add m) = some (.int .i64 (p : Int)) := hK.cell (HUB.out _ hab) hca0
      have hcr : wr.drew.cell? (ad2.add p) = some (.slice A' m' c') := hK.cell hab2 (by rw [← hrv]; exact hcr0)
      have hbx1 : wr.drew.cell? ⟨b1, 0, none⟩ = some (.slice (some ad) L c) := hK.cell h1 HB1.out
      have hbx2 : wr.drew.cell? ⟨b2, 0, none⟩ = some (.slice (some ad2) N c2) := hK.cell h2 HB2.out
      have hmI : (m : Int) < (L : Int) := by omega
      have hm0 : (0 : Int) ≤ (m : Int) := by omega
      have hpI : (p : Int) < (N : Int) := by omega
      have hp0 : (0 : Int) ≤ (p : Int) := by omega
      have hjt : j < (toldE rv l).length := by simp only [toldE, List.length_map, List.length_reverse]; rw [HL.out]; exact hlt
      have hje : (toldE rv l)[j] = (p, rv p) := by
        have : (toldE rv l)[j]? = some (p, rv p) := by unfold toldE; rw [List.getElem?_map, hrev]; rfl
        exact (List.getElem?_eq_some_iff.1 this).2
      have HTK := Lib.hid (show (toldE rv l).take (j + 1) = (toldE rv l).take j ++ [(p, rv p)] from by rw [List.take_succ_eq_append_getElem hjt, hje])
      have HPRE := Lib.hid (show (toldE rv l).take j ++ [(p, rv p)] <+: toldE rv l from by rw [← HTK.out]; exact List.take_prefix _ _)
      have HKD := Lib.hid (show Keeps U W wr.drew from hK.drew)
      obtain ⟨fn, tmps, assign, body, hy, hR⟩ := HY.out _ (p, rv p) wr.drew (HJ.out _ _ _ hJ (Keeps.refl _ _).drew) HPRE.out
      dsimp only at hy
      rw [hrv] at hy
      have HLT := Lib.hid hlt
      have HMJ := Lib.hid hm
      clear hJ hK hca0 hcr0 hje hjt hrev hp hml hm hmi hj hlt hab hab2 hw1 HB1
      gi_wp2_with fail
      refine wpIn_mono (wpIn_region_any (Q := Only _) (by kernel_rfl) ?_) Only.imp
      refine (show wpAnyIn _ _ _ _ _ _ _ _ _ (World.drew wr) from ?_)
      refine wpAnyIn_take (i := 0) rfl rfl (by kernel_rfl) (by kernel_rfl) (by kernel_rfl) (fun _ _ _ h => h) ⟨Or.inl ⟨by rfl, by intro W9; go_simp; try (with_reducible rfl)⟩, by intro W9; rfl⟩ ?_
      try simp only [Act.put, List.getElem_toArray, List.getElem_cons_zero, List.getElem_cons_succ, List.setIfInBounds_toArray, List.set_cons_zero, List.set_cons_succ]
      refine wpAnyIn_take (i := 2) rfl rfl (by kernel_rfl) (by kernel_rfl) (by kernel_rfl) (fun _ _ _ h => h) ⟨Or.inl ⟨by rfl, by intro W9; go_simp; try (with_reducible rfl)⟩, by intro W9; rfl⟩ ?_
      try simp only [Act.put, List.getElem_toArray, List.getElem_cons_zero, List.getElem_cons_succ, List.setIfInBounds_toArray, List.set_cons_zero, List.set_cons_succ]
      refine wpAnyIn_take (i := 7) rfl rfl (by kernel_rfl) (by kernel_rfl) (by kernel_rfl) (fun _ _ _ h => h) ⟨Or.inl ⟨by rfl, by intro W9; go_simp; try (with_reducible rfl)⟩, by intro W9; rfl⟩ ?_
      try simp only [Act.put, List.getElem_toArray, List.getElem_cons_zero, List.getElem_cons_succ, List.setIfInBounds_toArray, List.set_cons_zero, List.set_cons_succ]
      refine (fun (k_s14569b : ?G_s14569b) => ?m_s14569b) ?p_s14569b
      case m_s14569b =>
        refine (fun (k_s1569b : ?G_s1569b) => ?m_s1569b) ?p_s1569b
        case m_s1569b =>
          refine (fun (k_s14569 : ?G_s14569) => ?m_s14569) ?p_s14569
          case m_s14569 =>
            refine (fun (k_s569b : ?G_s569b) => ?m_s569b) ?p_s569b
            case m_s569b =>
              refine (fun (k_s1569 : ?G_s1569) => ?m_s1569) ?p_s1569
              case m_s1569 =>
                refine (fun (k_s1469 : ?G_s1469) => ?m_s1469) ?p_s1469
                case m_s1469 =>
                  refine (fun (k_s1456 : ?G_s1456) => ?m_s1456) ?p_s1456
                  case m_s1456 =>
                    refine (fun (k_s569 : ?G_s569) => ?m_s569) ?p_s569
                    case m_s569 =>
                      refine (fun (k_s169 : ?G_s169) => ?m_s169) ?p_s169
                      case m_s169 =>
                        refine (fun (k_s156 : ?G_s156) => ?m_s156) ?p_s156
                        case m_s156 =>
                          refine (fun (k_s146 : ?G_s146) => ?m_s146) ?p_s146
                          case m_s146 =>
                            refine (fun (k_s145 : ?G_s145) => ?m_s145) ?p_s145
                            case m_s145 =>
                              refine (fun (k_s69 : ?G_s69) => ?m_s69) ?p_s69
                              case m_s69 =>
                                refine (fun (k_s56 : ?G_s56) => ?m_s56) ?p_s56
                                case m_s56 =>
                                  refine (fun (k_s16 : ?G_s16) => ?m_s16) ?p_s16
                                  case m_s16 =>
                                    refine (fun (k_s15 : ?G_s15) => ?m_s15) ?p_s15
                                    case m_s15 =>
                                      refine (fun (k_s14 : ?G_s14) => ?m_s14) ?p_s14
                                      case m_s14 =>
                                        refine (fun (k_s6 : ?G_s6) => ?m_s6) ?p_s6
                                        case m_s6 =>
                                          refine (fun (k_s5 : ?G_s5) => ?m_s5) ?p_s5
                                          case m_s5 =>
                                            refine (fun (k_s1 : ?G_s1) => ?m_s1) ?p_s1
                                            case m_s1 =>
                                              refine wpAnyIn_ready (rs := [1, 5, 6]) (by kernel_rfl) (by simp) ?_
                                              refine AllReadyIn.cons rfl (fun K9 hK9 => ?_) (AllReadyIn.cons rfl (fun K9 hK9 => ?_) (AllReadyIn.cons rfl (fun K9 hK9 => ?_) (AllReadyIn.nil)))
                                              · go_simp
                                                refine hK9 _ _ ?_
                                                clear hK9 K9
                                                try simp only [Act.put, List.getElem_toArray, List.getElem_cons_zero, List.getElem_cons_succ, List.setIfInBounds_toArray, List.set_cons_zero, List.set_cons_succ]
                                                refine wpAnyIn_take (i := 3) rfl rfl (by kernel_rfl) (by kernel_rfl) (by kernel_rfl) (fun _ _ _ h => h) ⟨Or.inl ⟨by rfl, by intro W9; go_simp; try (with_reducible rfl)⟩, by intro W9; rfl⟩ ?_
                                                try simp only [Act.put, List.getElem_toArray, List.getElem_cons_zero, List.getElem_cons_succ, List.setIfInBounds_toArray, List.set_cons_zero, List.set_cons_succ]
                                                exact k_s1
                                              · go_simp
                                                refine hK9 _ _ ?_
                                                clear hK9 K9
                                                try simp only [Act.put, List.getElem_toArray, List.getElem_cons_zero, List.getElem_cons_succ, List.setIfInBounds_toArray, List.set_cons_zero, List.set_cons_succ]
                                                exact k_s5
                                              · go_simp
                                                refine hK9 _ _ ?_
                                                clear hK9 K9
                                                try simp only [Act.put, List.getElem_toArray, List.getElem_cons_zero, List.getElem_cons_succ, List.setIfInBounds_toArray, List.set_cons_zero, List.set_cons_succ]
                                                refine wpAnyIn_take (i := 8) rfl rfl (by kernel_rfl) (by kernel_rfl) (by kernel_rfl) (fun _ _ _ h => h) ⟨Or.inl ⟨by rfl, by intro W9; go_simp; try (with_reducible rfl)⟩, by intro W9; rfl⟩ ?_
                                                try simp only [Act.put, List.getElem_toArray, List.getElem_cons_zero, List.getElem_cons_succ, List.setIfInBounds_toArray, List.set_cons_zero, List.set_cons_succ]
                                                exact k_s6
                                            case p_s1 =>
                                              refine wpAnyIn_ready (rs := [4, 5, 6]) (by kernel_rfl) (by simp) ?_
                                              refine AllReadyIn.cons rfl (fun K9 hK9 => ?_) (AllReadyIn.cons rfl (fun K9 hK9 => ?_) (AllReadyIn.cons rfl (fun K9 hK9 => ?_) (AllReadyIn.nil)))
                                              · go_simp
                                                refine hK9 _ _ ?_
                                                clear hK9 K9
                                                try simp only [Act.put, List.getElem_toArray, List.getElem_cons_zero, List.getElem_cons_succ, List.setIfInBounds_toArray, List.set_cons_zero, List.set_cons_succ]
                                                exact k_s14
                                              · go_simp
                                                refine hK9 _ _ ?_
                                                clear hK9 K9
                                                try simp only [Act.put, List.getElem_toArray, List.getElem_cons_zero, List.getElem_cons_succ, List.setIfInBounds_toArray, List.set_cons_zero, List.set_cons_succ]
                                                exact k_s15
                                              · go_simp
                                                refine hK9 _ _ ?_
                                                clear hK9 K9
                                                try simp only [Act.put, List.getElem_toArray, List.getElem_cons_zero, List.getElem_cons_succ, List.setIfInBounds_toArray, List.set_cons_zero, List.set_cons_succ]
                                                refine wpAnyIn_take (i := 8) rfl rfl (by kernel_rfl) (by kernel_rfl) (by kernel_rfl) (fun _ _ _ h => h) ⟨Or.inl ⟨by rfl, by intro W9; go_simp; try (with_reducible rfl)⟩, by intro W9; rfl⟩ ?_
                                                try simp only [Act.put, List.getElem_toArray, List.getElem_cons_zero, List.getElem_cons_succ, List.setIfInBounds_toArray, List.set_cons_zero, List.set_cons_succ]
                                                exact k_s16
                                          case p_s5 =>
                                            refine wpAnyIn_ready (rs := [1, 6]) (by kernel_rfl) (by simp) ?_
                                            refine AllReadyIn.cons rfl (fun K9 hK9 => ?_) (AllReadyIn.cons rfl (fun K9 hK9 => ?_) (AllReadyIn.nil))
                                            · go_simp
                                              refine hK9 _ _ ?_
                                              clear hK9 K9
                                              try simp only [Act.put, List.getElem_toArray, List.getElem_cons_zero, List.getElem_cons_succ, List.setIfInBounds_toArray, List.set_cons_zero, List.set_cons_succ]
                                              refine wpAnyIn_take (i := 3) rfl rfl (by kernel_rfl) (by kernel_rfl) (by kernel_rfl) (fun _ _ _ h => h) ⟨Or.inl ⟨by rfl, by intro W9; go_simp; try (with_reducible rfl)⟩, by intro W9; rfl⟩ ?_
                                              try simp only [Act.put, List.getElem_toArray, List.getElem_cons_zero, List.getElem_cons_succ, List.setIfInBounds_toArray, List.set_cons_zero, List.set_cons_succ]
                                              exact k_s15
                                            · go_simp
                                              refine hK9 _ _ ?_
                                              clear hK9 K9
                                              try simp only [Act.put, List.getElem_toArray, List.getElem_cons_zero, List.getElem_cons_succ, List.setIfInBounds_toArray, List.set_cons_zero, List.set_cons_succ]
                                              refine wpAnyIn_take (i := 8) rfl rfl (by kernel_rfl) (by kernel_rfl) (by kernel_rfl) (fun _ _ _ h => h) ⟨Or.inl ⟨by rfl, by intro W9; go_simp; try (with_reducible rfl)⟩, by intro W9; rfl⟩ ?_
                                              try simp only [Act.put, List.getElem_toArray, List.getElem_cons_zero, List.getElem_cons_succ, List.setIfInBounds_toArray, List.set_cons_zero, List.set_cons_succ]
                                              exact k_s56
                                        case p_s6 =>
                                          refine wpAnyIn_ready (rs := [1, 5, 9]) (by kernel_rfl) (by simp) ?_
                                          refine AllReadyIn.cons rfl (fun K9 hK9 => ?_) (AllReadyIn.cons rfl (fun K9 hK9 => ?_) (AllReadyIn.cons rfl (fun K9 hK9 => ?_) (AllReadyIn.nil)))
                                          · go_simp
                                            refine hK9 _ _ ?_
                                            clear hK9 K9
                                            try simp only [Act.put, List.getElem_toArray, List.getElem_cons_zero, List.getElem_cons_succ, List.setIfInBounds_toArray, List.set_cons_zero, List.set_cons_succ]
                                            refine wpAnyIn_take (i := 3) rfl rfl (by kernel_rfl) (by kernel_rfl) (by kernel_rfl) (fun _ _ _ h => h) ⟨Or.inl ⟨by rfl, by intro W9; go_simp; try (with_reducible rfl)⟩, by intro W9; rfl⟩ ?_
                                            try simp only [Act.put, List.getElem_toArray, List.getElem_cons_zero, List.getElem_cons_succ, List.setIfInBounds_toArray, List.set_cons_zero, List.set_cons_succ]
                                            exact k_s16
                                          · go_simp
                                            refine hK9 _ _ ?_
                                            clear hK9 K9
                                            try simp only [Act.put, List.getElem_toArray, List.getElem_cons_zero, List.getElem_cons_succ, List.setIfInBounds_toArray, List.set_cons_zero, List.set_cons_succ]
                                            exact k_s56
                                          · go_simp
                                            refine hK9 _ _ ?_
                                            clear hK9 K9
                                            try simp only [Act.put, List.getElem_toArray, List.getElem_cons_zero, List.getElem_cons_succ, List.setIfInBounds_toArray, List.set_cons_zero, List.set_cons_succ]
                                            exact k_s69
                                      case p_s14 =>
                                        refine wpAnyIn_ready (rs := [5, 6]) (by kernel_rfl) (by simp) ?_
                                        refine AllReadyIn.cons rfl (fun K9 hK9 => ?_) (AllReadyIn.cons rfl (fun K9 hK9 => ?_) (AllReadyIn.nil))
                                        · go_simp
                                          refine hK9 _ _ ?_
                                          clear hK9 K9
                                          try simp only [Act.put, List.getElem_toArray, List.getElem_cons_zero, List.getElem_cons_succ, List.setIfInBounds_toArray, List.set_cons_zero, List.set_cons_succ]
                                          exact k_s145
                                        · go_simp
                                          refine hK9 _ _ ?_
                                          clear hK9 K9
                                          try simp only [Act.put, List.getElem_toArray, List.getElem_cons_zero, List.getElem_cons_succ, List.setIfInBounds_toArray, List.set_cons_zero, List.set_cons_succ]
                                          refine wpAnyIn_take (i := 8) rfl rfl (by kernel_rfl) (by kernel_rfl) (by kernel_rfl) (fun _ _ _ h => h) ⟨Or.inl ⟨by rfl, by intro W9; go_simp; try (with_reducible rfl)⟩, by intro W9; rfl⟩ ?_
                                          try simp only [Act.put, List.getElem_toArray, List.getElem_cons_zero, List.getElem_cons_succ, List.setIfInBounds_toArray, List.set_cons_zero, List.set_cons_succ]
                                          exact k_s146
                                    case p_s15 =>
                                      refine wpAnyIn_ready (rs := [4, 6]) (by kernel_rfl) (by simp) ?_
                                      refine AllReadyIn.cons rfl (fun K9 hK9 => ?_) (AllReadyIn.cons rfl (fun K9 hK9 => ?_) (AllReadyIn.nil))
                                      · go_simp
                                        refine hK9 _ _ ?_
                                        clear hK9 K9
                                        try simp only [Act.put, List.getElem_toArray, List.getElem_cons_zero, List.getElem_cons_succ, List.setIfInBounds_toArray, List.set_cons_zero, List.set_cons_succ]
                                        exact k_s145
                                      · go_simp
                                        refine hK9 _ _ ?_
                                        clear hK9 K9
                                        try simp only [Act.put, List.getElem_toArray, List.getElem_cons_zero, List.getElem_cons_succ, List.setIfInBounds_toArray, List.set_cons_zero, List.set_cons_succ]
                                        refine wpAnyIn_take (i := 8) rfl rfl (by kernel_rfl) (by kernel_rfl) (by kernel_rfl) (fun _ _ _ h => h) ⟨Or.inl ⟨by rfl, by intro W9; go_simp; try (with_reducible rfl)⟩, by intro W9; rfl⟩ ?_
                                        try simp only [Act.put, List.getElem_toArray, List.getElem_cons_zero, List.getElem_cons_succ, List.setIfInBounds_toArray, List.set_cons_zero, List.set_cons_succ]
                                        exact k_s156
                                  case p_s16 =>
                                    refine wpAnyIn_ready (rs := [4, 5, 9]) (by kernel_rfl) (by simp) ?_
                                    refine AllReadyIn.cons rfl (fun K9 hK9 => ?_) (AllReadyIn.cons rfl (fun K9 hK9 => ?_) (AllReadyIn.cons rfl (fun K9 hK9 => ?_) (AllReadyIn.nil)))
                                    · go_simp
                                      refine hK9 _ _ ?_
                                      clear hK9 K9
                                      try simp only [Act.put, List.getElem_toArray, List.getElem_cons_zero, List.getElem_cons_succ, List.setIfInBounds_toArray, List.set_cons_zero, List.set_cons_succ]
                                      exact k_s146
                                    · go_simp
                                      refine hK9 _ _ ?_
                                      clear hK9 K9
                                      try simp only [Act.put, List.getElem_toArray, List.getElem_cons_zero, List.getElem_cons_succ, List.setIfInBounds_toArray, List.set_cons_zero, List.set_cons_succ]
                                      exact k_s156
                                    · go_simp
                                      refine hK9 _ _ ?_
                                      clear hK9 K9
                                      try simp only [Act.put, List.getElem_toArray, List.getElem_cons_zero, List.getElem_cons_succ, List.setIfInBounds_toArray, List.set_cons_zero, List.set_cons_succ]
                                      exact k_s169
                                case p_s56 =>
                                  refine wpAnyIn_ready (rs := [1, 9]) (by kernel_rfl) (by simp) ?_
                                  refine AllReadyIn.cons rfl (fun K9 hK9 => ?_) (AllReadyIn.cons rfl (fun K9 hK9 => ?_) (AllReadyIn.nil))
                                  · go_simp
                                    refine hK9 _ _ ?_
                                    clear hK9 K9
                                    try simp only [Act.put, List.getElem_toArray, List.getElem_cons_zero, List.getElem_cons_succ, List.setIfInBounds_toArray, List.set_cons_zero, List.set_cons_succ]
                                    refine wpAnyIn_take (i := 3) rfl rfl (by kernel_rfl) (by kernel_rfl) (by kernel_rfl) (fun _ _ _ h => h) ⟨Or.inl ⟨by rfl, by intro W9; go_simp; try (with_reducible rfl)⟩, by intro W9; rfl⟩ ?_
                                    try simp only [Act.put, List.getElem_toArray, List.getElem_cons_zero, List.getElem_cons_succ, List.setIfInBounds_toArray, List.set_cons_zero, List.set_cons_succ]
                                    exact k_s156
                                  · go_simp
                                    refine hK9 _ _ ?_
                                    clear hK9 K9
                                    try simp only [Act.put, List.getElem_toArray, List.getElem_cons_zero, List.getElem_cons_succ, List.setIfInBounds_toArray, List.set_cons_zero, List.set_cons_succ]
                                    refine wpAnyIn_take (i := 10) rfl rfl (by kernel_rfl) (by kernel_rfl) (by kernel_rfl) (fun _ _ _ h => h) ⟨Or.inl ⟨by rfl, by intro W9; go_simp; try (with_reducible rfl)⟩, by intro W9; rfl⟩ ?_
                                    try simp only [Act.put, List.getElem_toArray, List.getElem_cons_zero, List.getElem_cons_succ, List.setIfInBounds_toArray, List.set_cons_zero, List.set_cons_succ]
                                    exact k_s569
                              case p_s69 =>
                                refine wpAnyIn_ready (rs := [1, 5]) (by kernel_rfl) (by simp) ?_
                                refine AllReadyIn.cons rfl (fun K9 hK9 => ?_) (AllReadyIn.cons rfl (fun K9 hK9 => ?_) (AllReadyIn.nil))
                                · go_simp
                                  refine hK9 _ _ ?_
                                  clear hK9 K9
                                  try simp only [Act.put, List.getElem_toArray, List.getElem_cons_zero, List.getElem_cons_succ, List.setIfInBounds_toArray, List.set_cons_zero, List.set_cons_succ]
                                  refine wpAnyIn_take (i := 3) rfl rfl (by kernel_rfl) (by kernel_rfl) (by kernel_rfl) (fun _ _ _ h => h) ⟨Or.inl ⟨by rfl, by intro W9; go_simp; try (with_reducible rfl)⟩, by intro W9; rfl⟩ ?_
                                  try simp only [Act.put, List.getElem_toArray, List.getElem_cons_zero, List.getElem_cons_succ, List.setIfInBounds_toArray, List.set_cons_zero, List.set_cons_succ]
                                  exact k_s169
                                · go_simp
                                  refine hK9 _ _ ?_
                                  clear hK9 K9
                                  try simp only [Act.put, List.getElem_toArray, List.getElem_cons_zero, List.getElem_cons_succ, List.setIfInBounds_toArray, List.set_cons_zero, List.set_cons_succ]
                                  refine wpAnyIn_take (i := 10) rfl rfl (by kernel_rfl) (by kernel_rfl) (by kernel_rfl) (fun _ _ _ h => h) ⟨Or.inl ⟨by rfl, by intro W9; go_simp; try (with_reducible rfl)⟩, by intro W9; rfl⟩ ?_
                                  try simp only [Act.put, List.getElem_toArray, List.getElem_cons_zero, List.getElem_cons_succ, List.setIfInBounds_toArray, List.set_cons_zero, List.set_cons_succ]
                                  exact k_s569
                            case p_s145 =>
                              refine wpAnyIn_ready (rs := [6]) (by kernel_rfl) (by simp) ?_
                              refine AllReadyIn.cons rfl (fun K9 hK9 => ?_) (AllReadyIn.nil)
                              · go_simp
                                refine hK9 _ _ ?_
                                clear hK9 K9
                                try simp only [Act.put, List.getElem_toArray, List.getElem_cons_zero, List.getElem_cons_succ, List.setIfInBounds_toArray, List.set_cons_zero, List.set_cons_succ]
                                refine wpAnyIn_take (i := 8) rfl rfl (by kernel_rfl) (by kernel_rfl) (by kernel_rfl) (fun _ _ _ h => h) ⟨Or.inl ⟨by rfl, by intro W9; go_simp; try (with_reducible rfl)⟩, by intro W9; rfl⟩ ?_
                                try simp only [Act.put, List.getElem_toArray, List.getElem_cons_zero, List.getElem_cons_succ, List.setIfInBounds_toArray, List.set_cons_zero, List.set_cons_succ]
                                exact k_s1456
                          case p_s146 =>
                            refine wpAnyIn_ready (rs := [5, 9]) (by kernel_rfl) (by simp) ?_
                            refine AllReadyIn.cons rfl (fun K9 hK9 => ?_) (AllReadyIn.cons rfl (fun K9 hK9 => ?_) (AllReadyIn.nil))
                            · go_simp
                              refine hK9 _ _ ?_
                              clear hK9 K9
                              try simp only [Act.put, List.getElem_toArray, List.getElem_cons_zero, List.getElem_cons_succ, List.setIfInBounds_toArray, List.set_cons_zero, List.set_cons_succ]
                              exact k_s1456
                            · go_simp
                              refine hK9 _ _ ?_
                              clear hK9 K9
                              try simp only [Act.put, List.getElem_toArray, List.getElem_cons_zero, List.getElem_cons_succ, List.setIfInBounds_toArray, List.set_cons_zero, List.set_cons_succ]
                              exact k_s1469
                        case p_s156 =>
                          refine wpAnyIn_ready (rs := [4, 9]) (by kernel_rfl) (by simp) ?_
                          refine AllReadyIn.cons rfl (fun K9 hK9 => ?_) (AllReadyIn.cons rfl (fun K9 hK9 => ?_) (AllReadyIn.nil))
                          · go_simp
                            refine hK9 _ _ ?_
                            clear hK9 K9
                            try simp only [Act.put, List.getElem_toArray, List.getElem_cons_zero, List.getElem_cons_succ, List.setIfInBounds_toArray, List.set_cons_zero, List.set_cons_succ]
                            exact k_s1456
                          · go_simp
                            refine hK9 _ _ ?_
                            clear hK9 K9
                            try simp only [Act.put, List.getElem_toArray, List.getElem_cons_zero, List.getElem_cons_succ, List.setIfInBounds_toArray, List.set_cons_zero, List.set_cons_succ]
                            refine wpAnyIn_take (i := 10) rfl rfl (by kernel_rfl) (by kernel_rfl) (by kernel_rfl) (fun _ _ _ h => h) ⟨Or.inl ⟨by rfl, by intro W9; go_simp; try (with_reducible rfl)⟩, by intro W9; rfl⟩ ?_
                            try simp only [Act.put, List.getElem_toArray, List.getElem_cons_zero, List.getElem_cons_succ, List.setIfInBounds_toArray, List.set_cons_zero, List.set_cons_succ]
                            exact k_s1569
                      case p_s169 =>
                        refine wpAnyIn_ready (rs := [4, 5]) (by kernel_rfl) (by simp) ?_
                        refine AllReadyIn.cons rfl (fun K9 hK9 => ?_) (AllReadyIn.cons rfl (fun K9 hK9 => ?_) (AllReadyIn.nil))
                        · go_simp
                          refine hK9 _ _ ?_
                          clear hK9 K9
                          try simp only [Act.put, List.getElem_toArray, List.getElem_cons_zero, List.getElem_cons_succ, List.setIfInBounds_toArray, List.set_cons_zero, List.set_cons_succ]
                          exact k_s1469
                        · go_simp
                          refine hK9 _ _ ?_
                          clear hK9 K9
                          try simp only [Act.put, List.getElem_toArray, List.getElem_cons_zero, List.getElem_cons_succ, List.setIfInBounds_toArray, List.set_cons_zero, List.set_cons_succ]
                          refine wpAnyIn_take (i := 10) rfl rfl (by kernel_rfl) (by kernel_rfl) (by kernel_rfl) (fun _ _ _ h => h) ⟨Or.inl ⟨by rfl, by intro W9; go_simp; try (with_reducible rfl)⟩, by intro W9; rfl⟩ ?_
                          try simp only [Act.put, List.getElem_toArray, List.getElem_cons_zero, List.getElem_cons_succ, List.setIfInBounds_toArray, List.set_cons_zero, List.set_cons_succ]
                          exact k_s1569
                    case p_s569 =>
                      refine wpAnyIn_ready (rs := [1, 11]) (by kernel_rfl) (by simp) ?_
                      refine AllReadyIn.cons rfl (fun K9 hK9 => ?_) (AllReadyIn.cons rfl (fun K9 hK9 => ?_) (AllReadyIn.nil))
                      · go_simp
                        refine hK9 _ _ ?_
                        clear hK9 K9
                        try simp only [Act.put, List.getElem_toArray, List.getElem_cons_zero, List.getElem_cons_succ, List.setIfInBounds_toArray, List.set_cons_zero, List.set_cons_succ]
                        refine wpAnyIn_take (i := 3) rfl rfl (by kernel_rfl) (by kernel_rfl) (by kernel_rfl) (fun _ _ _ h => h) ⟨Or.inl ⟨by rfl, by intro W9; go_simp; try (with_reducible rfl)⟩, by intro W9; rfl⟩ ?_
                        try simp only [Act.put, List.getElem_toArray, List.getElem_cons_zero, List.getElem_cons_succ, List.setIfInBounds_toArray, List.set_cons_zero, List.set_cons_succ]
                        exact k_s1569
                      · go_simp
                        refine hK9 _ _ ?_
                        clear hK9 K9
                        try simp only [Act.put, List.getElem_toArray, List.getElem_cons_zero, List.getElem_cons_succ, List.setIfInBounds_toArray, List.set_cons_zero, List.set_cons_succ]
                        exact k_s569b
                  case p_s1456 =>
                    refine wpAnyIn_ready (rs := [9]) (by kernel_rfl) (by simp) ?_
                    refine AllReadyIn.cons rfl (fun K9 hK9 => ?_) (AllReadyIn.nil)
                    · go_simp
                      refine hK9 _ _ ?_
                      clear hK9 K9
                      try simp only [Act.put, List.getElem_toArray, List.getElem_cons_zero, List.getElem_cons_succ, List.setIfInBounds_toArray, List.set_cons_zero, List.set_cons_succ]
                      refine wpAnyIn_take (i := 10) rfl rfl (by kernel_rfl) (by kernel_rfl) (by kernel_rfl) (fun _ _ _ h => h) ⟨Or.inl ⟨by rfl, by intro W9; go_simp; try (with_reducible rfl)⟩, by intro W9; rfl⟩ ?_
                      try simp only [Act.put, List.getElem_toArray, List.getElem_cons_zero, List.getElem_cons_succ, List.setIfInBounds_toArray, List.set_cons_zero, List.set_cons_succ]
                      exact k_s14569
                case p_s1469 =>
                  refine wpAnyIn_ready (rs := [5]) (by kernel_rfl) (by simp) ?_
                  refine AllReadyIn.cons rfl (fun K9 hK9 => ?_) (AllReadyIn.nil)
                  · go_simp
                    refine hK9 _ _ ?_
                    clear hK9 K9
                    try simp only [Act.put, List.getElem_toArray, List.getElem_cons_zero, List.getElem_cons_succ, List.setIfInBounds_toArray, List.set_cons_zero, List.set_cons_succ]
                    refine wpAnyIn_take (i := 10) rfl rfl (by kernel_rfl) (by kernel_rfl) (by kernel_rfl) (fun _ _ _ h => h) ⟨Or.inl ⟨by rfl, by intro W9; go_simp; try (with_reducible rfl)⟩, by intro W9; rfl⟩ ?_
                    try simp only [Act.put, List.getElem_toArray, List.getElem_cons_zero, List.getElem_cons_succ, List.setIfInBounds_toArray, List.set_cons_zero, List.set_cons_succ]
                    exact k_s14569
              case p_s1569 =>
                refine wpAnyIn_ready (rs := [4, 11]) (by kernel_rfl) (by simp) ?_
                refine AllReadyIn.cons rfl (fun K9 hK9 => ?_) (AllReadyIn.cons rfl (fun K9 hK9 => ?_) (AllReadyIn.nil))
                · go_simp
                  refine hK9 _ _ ?_
                  clear hK9 K9
                  try simp only [Act.put, List.getElem_toArray, List.getElem_cons_zero, List.getElem_cons_succ, List.setIfInBounds_toArray, List.set_cons_zero, List.set_cons_succ]
                  exact k_s14569
                · go_simp
                  refine hK9 _ _ ?_
                  clear hK9 K9
                  try simp only [Act.put, List.getElem_toArray, List.getElem_cons_zero, List.getElem_cons_succ, List.setIfInBounds_toArray, List.set_cons_zero, List.set_cons_succ]
                  exact k_s1569b
            case p_s569b =>
              refine wpAnyIn_ready (rs := [1]) (by kernel_rfl) (by simp) ?_
              refine AllReadyIn.cons rfl (fun K9 hK9 => ?_) (AllReadyIn.nil)
              · go_simp
                refine hK9 _ _ ?_
                clear hK9 K9
                try simp only [Act.put, List.getElem_toArray, List.getElem_cons_zero, List.getElem_cons_succ, List.setIfInBounds_toArray, List.set_cons_zero, List.set_cons_succ]
                refine wpAnyIn_take (i := 3) rfl rfl (by kernel_rfl) (by kernel_rfl) (by kernel_rfl) (fun _ _ _ h => h) ⟨Or.inl ⟨by rfl, by intro W9; go_simp; try (with_reducible rfl)⟩, by intro W9; rfl⟩ ?_
                try simp only [Act.put, List.getElem_toArray, List.getElem_cons_zero, List.getElem_cons_succ, List.setIfInBounds_toArray, List.set_cons_zero, List.set_cons_succ]
                exact k_s1569b
          case p_s14569 =>
            refine wpAnyIn_ready (rs := [11]) (by kernel_rfl) (by simp) ?_
            refine AllReadyIn.cons rfl (fun K9 hK9 => ?_) (AllReadyIn.nil)
            · go_simp
              refine hK9 _ _ ?_
              clear hK9 K9
              try simp only [Act.put, List.getElem_toArray, List.getElem_cons_zero, List.getElem_cons_succ, List.setIfInBounds_toArray, List.set_cons_zero, List.set_cons_succ]
              exact k_s14569b
        case p_s1569b =>
          refine wpAnyIn_ready (rs := [4]) (by kernel_rfl) (by simp) ?_
          refine AllReadyIn.cons rfl (fun K9 hK9 => ?_) (AllReadyIn.nil)
          · go_simp
            refine hK9 _ _ ?_
            clear hK9 K9
            try simp only [Act.put, List.getElem_toArray, List.getElem_cons_zero, List.getElem_cons_succ, List.setIfInBounds_toArray, List.set_cons_zero, List.set_cons_succ]
            exact k_s14569b
      case p_s14569b =>
        refine wpAnyIn_ready (rs := [12]) (by kernel_rfl) (by simp) ?_
        refine AllReadyIn.cons rfl (fun K9 hK9 => ?_) AllReadyIn.nil
        go_simp
        gi_wp2_with fail
        refine hR.mono ?_
        rintro e W3 (⟨rfl, hJ3, hk3⟩ | ⟨rfl, hJx3⟩)
        · have HJ3 := Lib.hid hJ3
          have HK3 := Lib.hid (HKD.out.trans hk3)
          clear hJ3 hk3
          try dsimp only
          refine hK9 _ _ ?_
          clear hK9 K9
          try simp only [Act.put, List.getElem_toArray, List.getElem_cons_zero, List.getElem_cons_succ, List.setIfInBounds_toArray, List.set_cons_zero, List.set_cons_succ]
          refine wpAnyIn_take (i := 13) rfl rfl (by kernel_rfl) (by kernel_rfl) (by kernel_rfl) (fun _ _ _ h => h) ⟨Or.inl ⟨by rfl, by intro W9; go_simp; try (with_reducible rfl)⟩, by intro W9; rfl⟩ ?_
          try simp only [Act.put, List.getElem_toArray, List.getElem_cons_zero, List.getElem_cons_succ, List.setIfInBounds_toArray, List.set_cons_zero, List.set_cons_succ]
          refine wpAnyIn_done (by kernel_rfl) ?_ _
          dsimp only [Only, Exit.then]
          gi_wp2_with fail
          go_roundw
          case rel => exact ⟨j + 1, by have := HLT.out; omega, by congr 1; have := HMJ.out; omega, by rw [HTK.out]; exact HJ3.out, HK3.out⟩
          case measure => have := HLT.out; have := HMJ.out; simp only [intOf]; omega
        · try dsimp only
          refine hK9 _ _ ?_
          clear hK9 K9
          try simp only [Act.put, List.getElem_toArray, List.getElem_cons_zero, List.getElem_cons_succ, List.setIfInBounds_toArray, List.set_cons_zero, List.set_cons_succ]
          refine wpAnyIn_take (i := 13) rfl rfl (by kernel_rfl) (by kernel_rfl) (by kernel_rfl) (fun _ _ _ h => h) ⟨Or.inl ⟨by rfl, by intro W9; go_simp; try (with_reducible rfl)⟩, by intro W9; rfl⟩ ?_
          try simp only [Act.put, List.getElem_toArray, List.getElem_cons_zero, List.getElem_cons_succ, List.setIfInBounds_toArray, List.set_cons_zero, List.set_cons_succ]
          refine wpAnyIn_done (by kernel_rfl) ?_ _
          dsimp only [Only, Exit.then]
          gi_wp2
          refine bodyPost_ret (results_none rfl _ _ _) rfl ?_
          exact ⟨⟨_, rfl⟩, .inr ⟨_, HPRE.out, hJx3⟩⟩
    · obtain rfl : j = L := by omega
      rw [List.take_of_length_le (by simp only [toldE, List.length_map, List.length_reverse]; rw [HL.out]; exact Nat.le_refl _)] at hJ
      have hneg : ¬ (0 : Int) ≤ (j : Int) - 1 - (j : Int) := by omega
      gi_wp2_with fail
      go_end0
      exact ⟨⟨_, rfl⟩, .inl hJ⟩

/-- What fromEnd hands back tells the places from the end. -/
theorem fromEnd_tells (n : Nat) (hn : 1 ≤ n) (b1 b2 B L N c c2 : Nat) (A A2 : Option Addr) (l : List Nat) (rv : Nat → Value) (U : Nat → Prop) (h1 : U b1) (h2 : U b2) (hUB : ∀ k, k < B → U k) (hl : l.length = L) (hl5 : L ≤ 1000) (w : World) (hb1 : w.cell? ⟨b1, 0, none⟩ = some (.slice A L c)) (hb2 : w.cell? ⟨b2, 0, none⟩ = some (.slice A2 N c2)) (hL : SlV w B (.slice A L c) (nats l)) (hB : B ≤ w.heap.size)
    (hR : ∀ p, p < N → ∃ ad A' m' c', A2 = some ad ∧ U (ad.add p).block ∧ w.cell? (ad.add p) = some (rv p) ∧ rv p = .slice A' m' c') (hlt : ∀ p ∈ l, p < N) :
    Tells Fence.wide n Try.prog 120 #[.pointer (some ⟨b1, 0, none⟩), .pointer (some ⟨b2, 0, none⟩)] (fun x : Nat × Value => #[.int .i64 (x.1 : Int), x.2]) (fun _ k => U k) (fun _ _ => True) (toldE rv l) w := by
  intro l0 J Jx W hW hJ hY h0
  refine fromEnd1_in n hn l0 b1 b2 B L N c c2 A A2 l rv J Jx U h1 h2 hUB hl hl5 hJ hY W
    ((hW.cell (p := ⟨b1, 0, none⟩) (World.block_lt_of_cell? w _ hb1)).trans hb1) ((hW.cell (p := ⟨b2, 0, none⟩) (World.block_lt_of_cell? w _ hb2)).trans hb2) (hL.below (hW.mono hB)) (fun p hp => ?_) hlt h0
  obtain ⟨ad, A', m', c', e1, e2, e3, e4⟩ := hR p hp
  exact ⟨ad, A', m', c', e1, e2, (hW.cell (World.block_lt_of_cell? w _ e3)).trans e3, e4⟩
end Go.Proofs.Ytlfgnoicjogfpaa.By
