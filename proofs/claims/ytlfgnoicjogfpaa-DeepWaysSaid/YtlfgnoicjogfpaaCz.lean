/-
  WALK of layer 11: what knots tells.
-/
import Derived.Test.YtlfgnoicjogfpaaCy
namespace Go.Proofs.Ytlfgnoicjogfpaa.By
open Go.RowKit
open Mem Gm Rf Cy
attribute [local go_sem] Oper.semAt_some

set_option linter.unusedSimpArgs false in
set_option maxRecDepth 100000 in
set_option maxHeartbeats 4000000 in
theorem knots1_in (n : Nat) (hn : 1 ≤ n) (l b1 B N c : Nat) (A : Option Addr) (gL : List (List Int)) (adj adj' : Nat → List Nat) (J : Nat → List (Value × List Nat) → World → Prop) (Jx : List (Value × List Nat) → World → Prop) (W : World) (hbox1 : W.cell? ⟨b1, 0, none⟩ = some (.slice A N c))
    (hG : Gr W B (.slice A N c) gL) (hB : B ≤ W.heap.size) (hN : N ≤ 500) (h2 : Two2 N gL adj adj')
    (hJ : ∀ M s X Y, W.heap.size ≤ M → J M s X → Keeps (fun k => k < W.heap.size ∨ M ≤ k) X Y → J M s Y)
    (hY : ∀ M pre x W1, W.heap.size ≤ M → J M pre W1 → KOk N adj M (pre ++ [x]) W1 → YieldAt Fence.wide (n - 1) Try.prog l #[x.1] W1 fun e W' =>
      (e = .returned (.bool true) ∧ J M (pre ++ [x]) W' ∧ Keeps (fun k => k < B ∨ k = b1 ∨ (W.heap.size ≤ k ∧ k < M)) W1 W') ∨ (e = .returned (.bool false) ∧ Jx (pre ++ [x]) W'))
    (h0 : ∀ M, W.heap.size ≤ M → J M [] W) :
    CallsIn Fence.wide n Try.prog 112 #[.func (.yield l) #[] #[], .pointer (some ⟨b1, 0, none⟩)] W fun e W' => (∃ v, e = .returned v) ∧ ((∃ M xs, W.heap.size ≤ M ∧ KEnd N adj xs ∧ J M xs W') ∨ ∃ pre, Jx pre W') := by
  obtain ⟨i0, hi, hz0, hz1, hz2⟩ := info_parts infoI
  have hlt1 : b1 < W.heap.size := World.block_lt_of_cell? W _ hbox1
  have HNT := Lib.hid (newTrail_any A c B N gL W.drew (hG.keep fun _ _ => rfl) hB (by omega))
  have HTU := Lib.hid (fun W1 (hb : Below W.heap.size W W1) => by
    have := turn_any A c W1.heap.size gL W1 (by rw [h2.len]; exact (hG.below (hb.mono hB)).more (Nat.le_trans hB hb.size)) (Nat.le_refl _) h2.small
    rw [h2.len] at this; exact this)
  have HN2 := Lib.hid (fun (W2 : World) A3 c3 (hg : Gr W2 W2.heap.size (.slice A3 N c3) (turn gL)) => newTrail_any A3 c3 W2.heap.size N (turn gL) W2 hg (Nat.le_refl _) (by omega))
  have HY := Lib.hid hY
  have HJ := Lib.hid hJ
  have H0 := Lib.hid h0
  have HD := Lib.hid h2
  clear hG hY hJ h0 h2
  refine callsIn_of_wp Try.func112 rfl trivial ?_ rfl
  simp only [Try.ntmps112, List.size_toArray, List.length_cons, List.length_nil, Nat.reduceAdd, Nat.reduceSub, Array.replicate_succ, Array.replicate_zero, List.push_toArray, List.append_toArray, List.nil_append, List.cons_append]
  gi_wp2_with fail
  refine wpIn_wide.2 ?_
  refine wp_region_noPanic ?_
  refine wp_region_held_drew (S := fun W' => W'.cell? ⟨b1, 0, none⟩ = some (.slice A N c)) (by kernel_rfl) (hbox1) (fun hHeld => ?_)
  refine wpAnyH_take (i := 0) rfl (by kernel_rfl) (by kernel_rfl) (by kernel_rfl) (fun _ _ _ h => h) (Or.inl ⟨by rfl, by intro W hSW; (try dsimp only at hSW); go_simp; try (with_reducible rfl)⟩) hHeld ?_
  try simp only [Act.put, List.getElem_toArray, List.getElem_cons_zero, List.getElem_cons_succ, List.setIfInBounds_toArray, List.set_cons_zero, List.set_cons_succ]
  refine wpAnyH_take (i := 2) rfl (by kernel_rfl) (by kernel_rfl) (by kernel_rfl) (fun _ _ _ h => h) (Or.inl ⟨by rfl, by intro W hSW; (try dsimp only at hSW); go_simp; try (with_reducible rfl)⟩) hHeld ?_
  try simp only [Act.put, List.getElem_toArray, List.getElem_cons_zero, List.getElem_cons_succ, List.setIfInBounds_toArray, List.set_cons_zero, List.set_cons_succ]
  refine wpAnyH_ready (rs := [1]) (by kernel_rfl) (by simp) ?_
  refine AllReadyH.cons rfl (fun K hK => ?_) AllReadyH.nil
  go_simp
  refine HNT.out.mono ?_
  rintro e w1 ⟨tb, bb, eb, rfl, ht1, h1, h2, h3, hb1⟩
  have HT1 := Lib.hid ht1
  have HL1 := Lib.hid (show W.heap.size ≤ tb ∧ W.heap.size ≤ bb ∧ W.heap.size ≤ eb from ⟨h1, h2, h3⟩)
  have HB1 := Lib.hid (show Below W.heap.size W w1 from ⟨hb1.os, hb1.tape, hb1.output, hb1.size, hb1.block⟩)
  clear ht1 h1 h2 h3 hb1
  try go_wp2_with fail
  refine hK.out _ _ ((HB1.out.cell (p := ⟨b1, 0, none⟩) hlt1).trans hbox1) ?_
  clear hK K hHeld
  intro hHeld
  try simp only [Act.put, List.getElem_toArray, List.getElem_cons_zero, List.getElem_cons_succ, List.setIfInBounds_toArray, List.set_cons_zero, List.set_cons_succ]
  refine wpAnyH_ready (rs := [3]) (by kernel_rfl) (by simp) ?_
  refine AllReadyH.cons rfl (fun K hK => ?_) AllReadyH.nil
  go_simp
  refine (HTU.out w1 HB1.out).mono ?_
  rintro e w2 ⟨A3, c3, rfl, hg2, hb2, hk2⟩
  have HG2 := Lib.hid hg2
  have HB2 := Lib.hid hb2
  have HK2 := Lib.hid hk2
  clear hg2 hb2 hk2
  try go_wp2_with fail
  refine hK.out _ _ (((HB1.out.trans (HB2.out.mono HB1.out.size)).cell (p := ⟨b1, 0, none⟩) hlt1).trans hbox1) ?_
  clear hK K hHeld
  intro hHeld
  try simp only [Act.put, List.getElem_toArray, List.getElem_cons_zero, List.getElem_cons_succ, List.setIfInBounds_toArray, List.set_cons_zero, List.set_cons_succ]
  refine wpAnyH_ready (rs := [4]) (by kernel_rfl) (by simp) ?_
  refine AllReadyH.cons rfl (fun K hK => ?_) AllReadyH.nil
  go_simp
  refine (HN2.out w2 A3 c3 HG2.out).mono ?_
  rintro e w3 ⟨tb', bb', eb', rfl, ht3, h1, h2, h3, hb3⟩
  have HT3 := Lib.hid ht3
  have HL3 := Lib.hid (And.intro h1 (And.intro h2 h3))
  have HB3 := Lib.hid hb3
  clear ht3 h1 h2 h3 hb3
  try go_wp2_with fail
  refine hK.out _ _ (((HB1.out.trans ((HB2.out.trans (HB3.out.mono HB2.out.size)).mono HB1.out.size)).cell (p := ⟨b1, 0, none⟩) hlt1).trans hbox1) ?_
  clear hK K hHeld
  intro hHeld
  try simp only [Act.put, List.getElem_toArray, List.getElem_cons_zero, List.getElem_cons_succ, List.setIfInBounds_toArray, List.set_cons_zero, List.set_cons_succ]
  refine wpAnyH_take (i := 5) rfl (by kernel_rfl) (by kernel_rfl) (by kernel_rfl) (fun _ _ _ h => h) (Or.inl ⟨by rfl, by intro W hSW; (try dsimp only at hSW); go_simp; try (with_reducible rfl)⟩) hHeld ?_
  try simp only [Act.put, List.getElem_toArray, List.getElem_cons_zero, List.getElem_cons_succ, List.setIfInBounds_toArray, List.set_cons_zero, List.set_cons_succ]
  refine wpAnyH_take (i := 6) rfl (by kernel_rfl) (by kernel_rfl) (by kernel_rfl) (fun _ _ _ h => h) (Or.inl ⟨by rfl, by intro W hSW; (try dsimp only at hSW); go_simp; try (with_reducible rfl)⟩) hHeld ?_
  try simp only [Act.put, List.getElem_toArray, List.getElem_cons_zero, List.getElem_cons_succ, List.setIfInBounds_toArray, List.set_cons_zero, List.set_cons_succ]
  refine wpAnyH_done (by kernel_rfl) ?_ _
  refine NoPanic.normal ?_
  have HKL := Lib.hid (KL.make hB HT1.out HL1.out HB1.out HB2.out HK2.out HT3.out HL3.out HB3.out)
  clear HT1 HL1 HB1 HB2 HK2 HT3 HL3 HB3 HG2 HNT HTU HN2 hHeld
  have hbx3 : w3.cell? ⟨b1, 0, none⟩ = some (.slice A N c) := (HKL.out.bel.cell (p := ⟨b1, 0, none⟩) hlt1).trans hbox1
  have HBW := Lib.hid hB
  clear hbox1 hB hlt1
  gi_wp2_with fail
  gi_loopw [5, 17] (fun lv i wr => ∃ (k : Nat) (been : Nat → Bool) (ed : Nat → Nat) (L : List Nat), k ≤ N ∧ i = .int .i64 k ∧ Hid (KA w3 B tb bb eb N A c gL adj k lv been ed L wr)) (fun _ i _ => N - (intOf i).toNat)
  case atStart => exact ⟨0, _, _, [], Nat.zero_le _, rfl, Lib.hid (KA.start HKL.out.t1 (rest_nil _ _))⟩
  case round =>
    obtain ⟨k, been, ed, L, hk, rfl, HKA⟩ := hrel
    by_cases hlt : k < N
    · have HF := Lib.hid (from_any wr B tb bb eb N A c gL adj been ed L k HKA.out.tr HKA.out.rest hlt HD.out.len HD.out.row (fun a b h => (HD.out.fit a b h).2) hN HD.out.le)
      unfold FrAns at HF
      have hkI : (k : Int) < (N : Int) := by omega
      have HTB := Lib.hid (show tb < w3.heap.size ∧ bb < w3.heap.size ∧ eb < w3.heap.size from by have := HKL.out.hi; have := HKL.out.sz; omega)
      have hLN := HKA.out.few
      clear hk
      gi_wp2_with fail
      refine ⟨trivial, ?_⟩
      gi_at_call 114
      refine (callsIn_wide.2 HF.out).mono ?_
      rintro e w4 ⟨v4, been4, ed4, left4, rfl, hg4, ht4, ho4, hk4⟩
      have HG4 := Lib.hid hg4
      have HT4 := Lib.hid ht4
      have HK4 := Lib.hid hk4
      have HV4 := Lib.hid (SlV.of_own ho4)
      have HO4 := Lib.hid (HKA.out.own4 HTB.out hk4)
      have HLN4 := Lib.hid (show left4.length ≤ N from nodup_len _ _ (List.nodup_append.1 (List.nodup_append.1 hg4.nodup).2.1).2.1 fun x hx => hg4.bound x (by simp [hx]))
      have HS4 := Lib.hid (show w3.heap.size ≤ w4.heap.size from Nat.le_trans HKA.out.keeps.size hk4.size)
      have H1C := Lib.hid (show ∀ y ∈ nats left4, y.oneCell' = true from fun y hy => by
        obtain ⟨z, _, rfl⟩ := List.mem_map.1 hy; rfl)
      have D1 := Lib.hid (show L.length + (nats left4).length ≤ maxLen by have := HLN4.out; simp only [nats, List.length_map]; unfold maxLen; omega)
      have D2 := Lib.hid (show (L.length + (nats left4).length) * 8 ≤ 140737488355328 by have := HLN4.out; simp only [nats, List.length_map]; omega)
      clear hg4 ht4 ho4 hk4 HF hLN
      gi_wp2_with (gi_at_builtin; refine wpListIn_append_slv _ rfl (.tmp 20) (.tmp 23) 26 rfl w3.heap.size 3 i0 (.int .i64 0) 8 Try.underlying26 hi hz0 hz1 hz2 rfl u5 L.length (nats L) rfl HO4.out _ v4 (nats left4) rfl HV4.out H1C.out D1.out D2.out HS4.out ?_; intro v5 w5 h5 h6 h7; clear h7)
      go_roundw
      case rel => exact ⟨k + 1, been4, ed4, L ++ left4, by omega, by go_num, Lib.hid (HKA.out.next HTB.out (by have := HKL.out.sz; have := HBW.out; omega) HG4.out HT4.out HK4.out (by have := h5; simpa [nats] using this) h6)⟩
      case measure => simp [intOf]; omega
    · obtain rfl : k = N := by omega
      have hform : ∃ A9 c9, u5 = .slice A9 L.length c9 := by
        obtain ⟨A9, c9, h9⟩ := (SlV.of_own HKA.out.own).form
        rw [show (nats L).length = L.length by simp [nats]] at h9
        exact ⟨A9, c9, h9⟩
      obtain ⟨A9, c9, rfl⟩ := hform
      have HR := Lib.hid (reverse_own wr w3.heap.size (.slice A9 L.length c9) L HKA.out.own (by have := HKA.out.few; omega))
      obtain ⟨LN, hLN⟩ : ∃ LN, L.length = LN := ⟨_, rfl⟩
      have HLN := Lib.hid hLN
      rw [hLN] at HR
      clear hlt hk hLN
      rw [HLN.out] at HKA
      rw [HLN.out]
      gi_wp2_with fail
      refine ⟨trivial, ?_⟩
      gi_at_call 115
      refine (callsIn_wide.2 HR.out).mono ?_
      rintro e w5 ⟨rfl, ho5, hg5⟩
      obtain ⟨hKB, hs5⟩ := KB.start (b1 := b1) (adj' := adj') (J := J) HKL.out HKA.out hg5 HJ.out H0.out
      have HKB := Lib.hid hKB
      have HS5 := Lib.hid hs5
      have HLV := Lib.hid (show ∀ (j s : Nat), L.reverse[j]? = some s → ∃ g9, A9 = some ⟨g9, 0, none⟩ ∧ (w3.heap.size ≤ g9 ∧ g9 < w5.heap.size) ∧ w5.cell? ⟨g9, j, none⟩ = some (.int .i64 (s : Int)) from fun j s hj => by
        have hj2 := (List.getElem?_eq_some_iff.1 hj).1
        have hpos : 0 < LN := by have := HLN.out; rw [List.length_reverse] at hj2; omega
        obtain ⟨g9, cap9, h1, h2, h3⟩ := ho5.form hpos
        injection h1 with h1 _ _
        rcases (SlV.of_own ho5).inv with ⟨_, h4, _⟩ | ⟨ad, e, _, _, _, hr⟩
        · omega
        · rw [h1] at e
          injection e with e
          have h4 := (hr j (.int .i64 (s : Int)) (by show (L.reverse.map _)[j]? = _; rw [List.getElem?_map, hj]; rfl)).2
          rw [← e, add_plain, Nat.zero_add] at h4
          exact ⟨g9, h1, ⟨h2, h3⟩, h4⟩)
      have HG3 := Lib.hid (show ∀ X, Keeps (fun k => w1.heap.size ≤ k ∧ k < w2.heap.size) w5 X → Gr X w2.heap.size (.slice A3 k c3) (turn gL) from fun X hX => by
        have h1 := HKL.out.sz
        have h2 := HKL.out.hi
        have h3 := ho5.lt
        refine HKL.out.gk X ((HKA.out.keeps.mono fun b hb _ => ?_).trans ((((Keeps.refl (fun b => (Value.slice A9 LN c9).ownBlock ≠ some b) wr).grown hg5 fun r hr h => h hr).mono fun b hb _ e => ?_).trans hX))
        · omega
        · have := (h3 b e).1; omega)
      have hLN5 : LN ≤ 500 := by have := HKA.out.few; have := HLN.out; omega
      clear hKB hs5 ho5 hg5 HR
      gi_wp2_with fail
      gi_loopw [30] (fun i wr => ∃ (j : Nat) (pre : List (Value × List Nat)) (been2 : Nat → Bool) (ed2 : Nat → Nat) (L2 : List Nat), j ≤ LN ∧ i = .int .i64 j ∧ Hid (KB W w5 w1 w2 B b1 tb' bb' eb' k A3 c3 gL adj adj' L J j pre been2 ed2 L2 wr)) (fun i _ => LN - (intOf i).toNat)
      case atStart => exact ⟨0, [], _, _, [], Nat.zero_le _, rfl, HKB⟩
      case round =>
        obtain ⟨j, pre, been2, ed2, L2, hj, rfl, HB⟩ := hrel
        by_cases hlt : j < LN
        · obtain ⟨s, hs⟩ : ∃ s, L.reverse[j]? = some s := ⟨_, List.getElem?_eq_getElem (by rw [List.length_reverse, HLN.out]; exact hlt)⟩
          obtain ⟨g9, rfl, hg9, hc9⟩ := HLV.out j s hs
          have hl' := HKL.out.lo'
          have hh' := HKL.out.hi'
          have hsz := HKL.out.sz
          have hcell := HB.out.keeps.cell (p := ⟨g9, j, none⟩) (by show g9 ≠ bb' ∧ g9 ≠ eb' ∧ (g9 < B ∨ g9 = b1 ∨ (W.heap.size ≤ g9 ∧ g9 < w5.heap.size)); omega) hc9
          have hsN : s < k := HKA.out.rest.bound s (List.mem_reverse.1 (List.mem_of_getElem? hs))
          have HF := Lib.hid (from_any wr w2.heap.size tb' bb' eb' k A3 c3 (turn gL) adj' been2 ed2 L2 s HB.out.tr HB.out.kn.rest hsN (by rw [turn_length]; exact HD.out.len) HD.out.row' (fun a b h => (HD.out.fit b a ((HD.out.turns a b).1 h)).1) hN HD.out.le')
          unfold FrAns at HF
          have hjI : (j : Int) < (LN : Int) := by omega
          have hj0 : (0 : Int) ≤ (j : Int) := by omega
          have HS := Lib.hid hs
          have HLT := Lib.hid hlt
          clear hj hc9 hl' hh' hsz hs hg9
          gi_wp2_with fail
          refine ⟨trivial, ?_⟩
          gi_at_call 114
          refine (callsIn_wide.2 HF.out).mono ?_
          rintro e w6 ⟨v6, been6, ed6, K, rfl, hg6, ht6, ho6, hk6⟩
          have hform : ∃ A6 c6, v6 = .slice A6 K.length c6 := by
            obtain ⟨A6, c6, h6⟩ := (SlV.of_own ho6).form
            rw [show (nats K).length = K.length by simp [nats]] at h6
            exact ⟨A6, c6, h6⟩
          obtain ⟨A6, c6, rfl⟩ := hform
          obtain ⟨hj6, hk6'⟩ := KB.step HKL.out HS5.out HB.out HJ.out hk6
          have HT6 := Lib.hid ht6
          have HK6 := Lib.hid hk6'
          have HJ6 := Lib.hid hj6
          cases K with
          | nil =>
            have HN := Lib.hid (HB.out.none HKL.out HS5.out HJ.out HS.out hk6 hg6 ht6)
            clear hg6 ht6 ho6 hk6 hk6' hj6 HF
            simp only [List.length_nil]
            gi_wp2_with fail
            refine ⟨fun _ h => (by cases h), ?_⟩
            gi_wp2
            go_roundw
            case rel => exact ⟨j + 1, pre, been6, ed6, L2, by have := HLT.out; omega, by go_num, HN⟩
            case measure => have := HLT.out; simp [intOf]; omega
          | cons y K =>
            have hkn := KB.some (v := .slice A6 (y :: K).length c6) HD.out HKA.out.rest HKA.out.has HB.out HS.out (by simp) hg6
            have hok : KOk k adj w5.heap.size (pre ++ [(.slice A6 (y :: K).length c6, y :: K)]) w6 := ⟨hk6'.size, fun x hx => by
              rw [List.getLast?_append, List.getLast?_singleton] at hx
              have hx : (Value.slice A6 (y :: K).length c6, y :: K) = x := by simpa using hx
              subst hx
              have hnd := hg6.nodup
              have hbd := hg6.bound
              have h1 : ∀ z ∈ y :: K, z < k := fun z hz => hbd z (by simp only [List.nil_append, List.mem_append]; exact .inr hz)
              have h2 : (y :: K).Nodup := (List.nodup_append.1 (List.nodup_append.1 hnd).2.1).2.1
              refine ⟨⟨A6, c6, rfl, SlV.of_own ho6⟩, by simp, h1, nodup_len _ _ h2 h1, nodup_len _ _ hkn.on_nodup fun z hz => ?_⟩
              exact hkn.rest.bound z ((hkn.on_iff z).1 hz).1⟩
            obtain ⟨fn, tmps, assign, body, hy, hR⟩ := HY.out w5.heap.size pre (.slice A6 (y :: K).length c6, y :: K) w6 HS5.out.1 hj6 hok
            dsimp only at hy
            have HKN := Lib.hid hkn
            obtain ⟨m, hm⟩ : ∃ m, (y :: K).length = m := ⟨_, rfl⟩
            have hm0 : (0 : Int) < (m : Int) := by have : 0 < (y :: K).length := by simp
                                                   omega
            rw [hm] at hy hR HKN ⊢
            clear hg6 ht6 ho6 hk6 hk6' hj6 hok hkn HF hm
            gi_wp2_with fail
            refine hR.mono ?_
            rintro e w7 (⟨rfl, hJ7, hk7⟩ | ⟨rfl, hJx7⟩)
            · have HN := Lib.hid (KB.next HKL.out HS5.out HK6.out HT6.out HG3.out HKN.out hJ7 hk7)
              clear hJ7 hk7
              gi_wp2
              go_roundw
              case rel => exact ⟨j + 1, _, been6, ed6, _, by have := HLT.out; omega, by go_num, HN⟩
              case measure => have := HLT.out; simp [intOf]; omega
            · gi_wp2
              refine bodyPost_ret (results_none rfl _ _ _) rfl ?_
              exact ⟨⟨_, rfl⟩, .inr ⟨_, hJx7⟩⟩
        · obtain rfl : j = LN := by omega
          have hall := HKA.out.has
          have hkn := HB.out.kn
          rw [List.take_of_length_le (by rw [List.length_reverse, HLN.out]; exact Nat.le_refl _), List.reverse_reverse] at hkn
          have hend : KEnd k adj pre := Cy.Knots.all hall hkn
          have hj6 := HB.out.j
          clear hkn hall
          gi_wp2_with fail
          go_end0
          exact ⟨⟨_, rfl⟩, .inl ⟨w5.heap.size, pre, HS5.out.1, hend, hj6⟩⟩

/-- What knots hands back tells the knots. -/
theorem knots_tells (n : Nat) (hn : 1 ≤ n) (b1 B N c : Nat) (A : Option Addr) (gL : List (List Int)) (adj adj' : Nat → List Nat) (w : World) (hbox1 : w.cell? ⟨b1, 0, none⟩ = some (.slice A N c)) (hG : Gr w B (.slice A N c) gL) (hB : B ≤ w.heap.size) (hN : N ≤ 500) (h2 : Two2 N gL adj adj') :
    TellsM Fence.wide n Try.prog 112 #[.pointer (some ⟨b1, 0, none⟩)] (fun x : Value × List Nat => #[x.1])
      (fun L M k => k < B ∨ k = b1 ∨ (L ≤ k ∧ k < M)) (fun L M k => k < L ∨ M ≤ k) (KOk N adj) (KEnd N adj) w := by
  intro l J Jx W hW hJ hY h0
  exact knots1_in n hn l b1 B N c A gL adj adj' J Jx W ((hW.cell (p := ⟨b1, 0, none⟩) (World.block_lt_of_cell? w _ hbox1)).trans hbox1) (hG.below (hW.mono hB)) (Nat.le_trans hB hW.size) hN h2 hJ hY h0
end Go.Proofs.Ytlfgnoicjogfpaa.By
