/-
  WALK of layer 11's document: Order.
-/
import Derived.Test.YtlfgnoicjogfpaaCs
import Derived.Test.YtlfgnoicjogfpaaCx
import Derived.Test.YtlfgnoicjogfpaaCn
import Derived.Deep.LoopGhost
namespace Go.Proofs.Ytlfgnoicjogfpaa.By
open Go.RowKit
open Mem Gm Rf
set_option linter.unusedSimpArgs false

/-- The next one, as the document looks for it: of the places ahead of the k-th. -/
def nxO (N : Nat) (R : Nat → Nat → Bool) (T : Nat → Bool) (k : Nat) : Option Nat := (List.range k).find? fun p => T p && (List.range N).all fun a => !(T a && R a p)
def nxI : Option Nat → Int
  | none => -1
  | some p => p
theorem nxO_next (N : Nat) (R : Nat → Nat → Bool) (T : Nat → Bool) (k : Nat) : nxO N R T (k + 1) = match nxO N R T k with | some p => some p | none => if (T k && (List.range N).all fun a => !(T a && R a k)) = true then some k else none := by
  unfold nxO
  rw [List.range_succ, List.find?_append]
  cases h : (List.range k).find? fun p => T p && (List.range N).all fun a => !(T a && R a p) with
  | some p => rfl
  | none =>
    rw [Option.none_or]
    cases h2 : (T k && (List.range N).all fun a => !(T a && R a k)) with
    | true => rw [List.find?_cons, h2]; rfl
    | false => rw [List.find?_cons, h2]; rfl
theorem nxO_pick (N : Nat) (R : Nat → Nat → Bool) (T : Nat → Bool) : nxO N R T N = pick N R T := rfl
theorem nxO_lt {N : Nat} {R : Nat → Nat → Bool} {T : Nat → Bool} {k p : Nat} (h : nxO N R T k = some p) : p < k := List.mem_range.1 (List.mem_of_find?_eq_some h)
theorem nxO_T {N : Nat} {R : Nat → Nat → Bool} {T : Nat → Bool} {k p : Nat} (h : nxO N R T k = some p) : T p = true := by
  have := List.find?_some h
  rw [Bool.and_eq_true] at this
  exact this.1
/-- Whether nobody of those ahead of the j-th leads to it that waits. -/
def freeB (R : Nat → Nat → Bool) (T : Nat → Bool) (k j : Nat) : Bool := (List.range j).all fun a => !(T a && R a k)
theorem freeB_next (R : Nat → Nat → Bool) (T : Nat → Bool) (k j : Nat) : freeB R T k (j + 1) = (freeB R T k j && !(T j && R j k)) := by
  unfold freeB
  rw [List.range_succ, List.all_append]
  simp
theorem freeB_no {R : Nat → Nat → Bool} {T : Nat → Bool} {k j N : Nat} (h : freeB R T k j = false) (hj : j ≤ N) : freeB R T k N = false := by
  cases h2 : freeB R T k N with
  | false => rfl
  | true =>
    have : freeB R T k j = true := by
      unfold freeB at h2 ⊢
      rw [List.all_eq_true] at h2 ⊢
      exact fun a ha => h2 a (List.mem_range.2 (by have := List.mem_range.1 ha; omega))
    rw [h] at this; cases this

theorem many_to (T : Nat → Bool) (k : Nat) : many (k + 1) T = many k T + (if T k = true then 1 else 0) := by
  unfold many
  rw [List.range_succ, List.filter_append, List.length_append]
  cases h : T k <;> simp [h]

/-- How far the rounds have come. -/
structure RO (w1 : World) (N : Nat) (R : Nat → Nat → Bool) (r : Option (List Nat)) (nT : Nat) (f : Nat) (ov : Value) (T : Nat → Bool) (done : List Nat) (wr : World) : Prop where
  ord : ∃ F, f ≤ F ∧ r = (ordL N R F T).map (done ++ ·)
  many : many N T = f
  num : done.length + f = nT
  own : wr.ownsRow (w1.heap.size + 1) 3 1 ov done.length (nats done)
  blk : Blk wr w1.heap.size 4 (arrN N fun j => .bool (T j))
  bel : Below w1.heap.size w1 wr

theorem ordL_empty {N : Nat} {R : Nat → Nat → Bool} {T : Nat → Bool} (h : many N T = 0) : ∀ F, ordL N R F T = some [] := by
  have h1 : ((List.range N).all fun p => !T p) = true := by
    rw [List.all_eq_true]
    intro p hp
    unfold many at h
    have := List.eq_nil_of_length_eq_zero h
    rw [List.filter_eq_nil_iff] at this
    have := this p hp
    simpa using this
  intro F
  cases F with
  | zero => rw [ordL, if_pos h1]
  | succ F => rw [ordL, if_pos h1]
theorem ordL_step {N : Nat} {R : Nat → Nat → Bool} {T : Nat → Bool} {f : Nat} (h : many N T = f + 1) (F : Nat) : ordL N R (F + 1) T = match pick N R T with | none => none | some p => (ordL N R F (minus T p)).map (p :: ·) := by
  have h1 : ¬ ((List.range N).all fun p => !T p) = true := by
    intro h1
    rw [List.all_eq_true] at h1
    have h2 : (List.range N).filter T = [] := by
      rw [List.filter_eq_nil_iff]
      intro p hp
      have := h1 p hp
      simpa using this
    unfold many at h
    rw [h2] at h
    cases h
  rw [ordL, if_neg h1]
  cases pick N R T <;> rfl

theorem RO.none {w1 : World} {N : Nat} {R : Nat → Nat → Bool} {r : Option (List Nat)} {nT f : Nat} {ov : Value} {T : Nat → Bool} {done : List Nat} {wr : World} (h : RO w1 N R r nT (f + 1) ov T done wr) (hp : pick N R T = none) : r = none := by
  obtain ⟨F, hF, hr⟩ := h.ord
  obtain ⟨F, rfl⟩ : ∃ F', F = F' + 1 := ⟨F - 1, by omega⟩
  rw [ordL_step h.many, hp] at hr
  exact hr
theorem RO.next {w1 : World} {N : Nat} {R : Nat → Nat → Bool} {r : Option (List Nat)} {nT f : Nat} {ov ov2 : Value} {T : Nat → Bool} {done : List Nat} {wr w2 : World} (h : RO w1 N R r nT (f + 1) ov T done wr) {p : Nat} (hp : pick N R T = some p)
    (ho : w2.ownsRow (w1.heap.size + 1) 3 1 ov2 (done.length + 1) (nats done ++ [.int .i64 (p : Int)])) (hb : Blk w2 w1.heap.size 4 (arrN N fun j => .bool (minus T p j))) (hbel : Below w1.heap.size w1 w2) : RO w1 N R r nT f ov2 (minus T p) (done ++ [p]) w2 := by
  obtain ⟨F, hF, hr⟩ := h.ord
  obtain ⟨F, rfl⟩ : ∃ F', F = F' + 1 := ⟨F - 1, by omega⟩
  rw [ordL_step h.many, hp] at hr
  have hpN : p < N := nxO_lt (nxO_pick N R T ▸ hp)
  have hpT : T p = true := nxO_T (nxO_pick N R T ▸ hp)
  refine ⟨⟨F, by omega, ?_⟩, ?_, ?_, ?_, hb, hbel⟩
  · rw [hr, Option.map_map]
    congr 1
    funext l
    simp
  · have := many_minus hpN hpT
    have := h.many
    omega
  · have := h.num
    rw [List.length_append, List.length_singleton]; omega
  · rw [List.length_append, List.length_singleton, show nats (done ++ [p]) = nats done ++ [Value.int .i64 (p : Int)] by simp [nats]]
    exact ho

set_option maxRecDepth 100000 in
set_option maxHeartbeats 4000000 in
theorem rorder_any (w : World) (A A2 : Option Addr) (c c2 M N : Nat) (g : List (List Int)) (ins : List Bool) (hN : g.length = N) (h : Gr w w.heap.size (.slice A N c) g) (hM : ins.length = M) (hI : SlV w w.heap.size (.slice A2 M c2) (bls ins)) (hl : N ≤ 500) (hr : ∀ k, (rowOf g k).length ≤ 1000) :
    Calls Try.prog 17 #[.slice A N c, .slice A2 M c2] w (OrdAns (ordV g ins) w) := by
  obtain ⟨i0, hi, hz0, hz1, hz2⟩ := info_parts infoI
  have HWI := Lib.hid (rwithin_any w A A2 c c2 M N g ins hN h hM hI (by omega) hr)
  unfold CleanAns at HWI
  have HMM := Lib.hid (fun W a (hb : Below w.heap.size w W) => rmember_any W w.heap.size N M c c2 A A2 ins a hM (hI.below hb))
  have HGL := Lib.hid (show (witG g ins).length = N by rw [witG_length]; exact hN)
  have HR := Lib.hid (rord_same g ins)
  rw [hN] at HR
  rw [HGL.out] at HWI
  have hmk := make_bools N (by omega)
  generalize ordV g ins = r at HR ⊢
  generalize witG g ins = L at HGL HWI HR
  clear h hN hI hr
  go_enter Try.func17, Try.ntmps17
  go_wp2_with fail
  refine HWI.out.mono ?_
  rintro e w1 ⟨A1, c1, rfl, hg1, hb1⟩
  have HG1 := Lib.hid hg1
  have HB1 := Lib.hid hb1
  clear hg1 hb1 HWI
  go_wp2_with fail
  go_loopw [8, 9] (fun nv i wr => ∃ k : Nat, k ≤ N ∧ i = .int .i64 k ∧ nv = .int .i64 (many k (fun a => rmemV N ins (a : Int)) : Nat) ∧ Blk wr w1.heap.size 4 (arrN N fun j => .bool (decide (j < k) && rmemV N ins (j : Int))) ∧ Below w1.heap.size w1 wr) (fun _ i _ => N - (intOf i).toNat)
  case atStart =>
    refine ⟨0, by omega, rfl, rfl, ?_, (Below.refl _ w1).alloc (Nat.le_refl _) _⟩
    have e : (fun (j : Nat) => Value.bool (decide (j < 0) && rmemV N ins (j : Int))) = fun _ => .bool false := funext fun j => by simp
    rw [e, ← arrN_rep]
    exact Blk.new w1 4 (Array.replicate N (.bool false))
  case round =>
    obtain ⟨k, hk, rfl, rfl, hblk, hbel⟩ := hrel
    by_cases hlt : k < N
    · have HM1 := Lib.hid (HMM.out wr (k : Int) (HB1.out.trans (hbel.mono HB1.out.size)))
      have HMA := Lib.hid (many_to (fun a => rmemV N ins (a : Int)) k)
      obtain ⟨b, hb⟩ : ∃ b, rmemV N ins (k : Int) = b := ⟨_, rfl⟩
      have hmk9 : many k (fun a => rmemV N ins (a : Int)) ≤ 1000 := Nat.le_trans (List.length_filter_le _ _) (by rw [List.length_range]; omega)
      have hset : Blk (wr.setCell ⟨w1.heap.size, k, none⟩ (.bool b)) w1.heap.size 4 (arrN N fun j => .bool (decide (j < k + 1) && rmemV N ins (j : Int))) := by
        have := hblk.stored k (.bool b)
        rw [arrN_set] at this
        have e : (fun j => if j = k then Value.bool b else .bool (decide (j < k) && rmemV N ins (j : Int))) = fun j => .bool (decide (j < k + 1) && rmemV N ins (j : Int)) := funext fun j => by
          by_cases hj : j = k
          · subst hj; rw [if_pos rfl, ← hb]; simp
          · rw [if_neg hj]
            have : decide (j < k) = decide (j < k + 1) := by
              rw [Bool.eq_iff_iff, decide_eq_true_iff, decide_eq_true_iff]; omega
            rw [this]
        rw [e] at this; exact this
      have hbel2 : Below w1.heap.size w1 (wr.setCell ⟨w1.heap.size, k, none⟩ (.bool b)) := hbel.setCell (p := ⟨w1.heap.size, k, none⟩) (Nat.le_refl _) _
      have hc0 : wr.cell? ⟨w1.heap.size, k, none⟩ = some (.bool (decide (k < k) && rmemV N ins (k : Int))) := by rw [hblk.cell, arrN_at _ hlt]
      have hf0 : wr.frozen? ⟨w1.heap.size, k, none⟩ = false := hblk.frozen k
      have hc1 : (wr.setCell ⟨w1.heap.size, k, none⟩ (.bool b)).cell? ⟨w1.heap.size, k, none⟩ = some (.bool b) := by rw [hset.cell, arrN_at _ hlt]; simp [hb]
      generalize (decide (k < k) && rmemV N ins (k : Int)) = b0 at hc0
      have HS := Lib.hid hset
      have HB2 := Lib.hid hbel2
      have hkI : (k : Int) < (N : Int) := by omega
      have hk0 : (0 : Int) ≤ (k : Int) := by omega
      have HLT := Lib.hid hlt
      rw [hb] at HM1 HMA
      obtain ⟨nk, hnk⟩ : ∃ nk, many k (fun a => rmemV N ins (a : Int)) = nk := ⟨_, rfl⟩
      rw [hnk] at HMA hmk9 ⊢
      clear hblk hbel hset hbel2 hb hnk
      cases b with
      | true =>
        go_wp2_with (go_at_call 23; refine HM1.out.mono ?_; rintro e w2 ⟨rfl, rfl⟩)
        go_roundw
        case rel => exact ⟨k + 1, by have := HLT.out; omega, by go_num, by rw [HMA.out]; simp only [if_true]; go_num, HS.out, HB2.out⟩
        case measure => have := HLT.out; simp [intOf]; omega
      | false =>
        go_wp2_with (go_at_call 23; refine HM1.out.mono ?_; rintro e w2 ⟨rfl, rfl⟩)
        go_roundw
        case rel => exact ⟨k + 1, by have := HLT.out; omega, by go_num, by rw [HMA.out]; rfl, HS.out, HB2.out⟩
        case measure => have := HLT.out; simp [intOf]; omega
    · obtain rfl : k = N := by omega
      have HT0 : (fun (j : Nat) => Value.bool (decide (j < k) && rmemV k ins (j : Int))) = fun (j : Nat) => Value.bool (rmemV k ins (j : Int)) := funext fun j => by
        by_cases hj : j < k
        · rw [decide_eq_true hj, Bool.true_and]
        · have : rmemV k ins (j : Int) = false := by
            unfold rmemV
            rw [decide_eq_false (show ¬ ((j : Int) < (k : Int)) by omega)]; simp
          rw [this, Bool.and_false]
      rw [HT0] at hblk
      have hRO : RO w1 k (E L) r (many k fun a => rmemV k ins (a : Int)) (many k fun a => rmemV k ins (a : Int)) (.slice none 0 0) (fun a => rmemV k ins (a : Int)) [] wr :=
        ⟨⟨k, Nat.le_trans (List.length_filter_le _ _) (by rw [List.length_range]; exact Nat.le_refl _), by rw [HR.out]; cases r <;> rfl⟩, rfl, by simp, World.ownsRow_nil _ _ _ _, hblk, hbel⟩
      have HRO := Lib.hid hRO
      obtain ⟨nT, hnT⟩ : ∃ nT, (many k fun a => rmemV k ins (a : Int)) = nT := ⟨_, rfl⟩
      rw [hnT] at HRO ⊢
      have hnk : nT ≤ 500 := by rw [← hnT]; exact Nat.le_trans (List.length_filter_le _ _) (by rw [List.length_range]; exact hl)
      clear hRO HT0 hblk hbel HR hnT hlt hk HMM
      go_wp2_with fail
      go_loopg [10] nT (fun f ov wo => ∃ T done, Hid (RO w1 k (E L) r nT f ov T done wo))
      case atStart => exact ⟨_, _, HRO⟩
      case round =>
        obtain ⟨T, done, HO⟩ := hrel
        have hnum := HO.out.num
        cases gk with
        | zero =>
          have hr : r = some done := by
            obtain ⟨F, _, hr⟩ := HO.out.ord
            rw [ordL_empty HO.out.many F] at hr
            rw [hr]; simp
          have hlen : done.length = nT := by omega
          have hsl := SlV.of_own HO.out.own
          have hform : ∃ OA OC, u10 = .slice OA done.length OC := by
            obtain ⟨OA, OC, h9⟩ := hsl.form
            rw [show (nats done).length = done.length by simp [nats]] at h9
            exact ⟨OA, OC, h9⟩
          obtain ⟨OA, OC, rfl⟩ := hform
          have HS := Lib.hid hsl
          have HB := Lib.hid (HB1.out.trans (HO.out.bel.mono HB1.out.size))
          obtain ⟨dl, hdl⟩ : ∃ dl, done.length = dl := ⟨_, rfl⟩
          have hlI : ¬ (dl : Int) < (nT : Int) := by omega
          rw [hdl] at HS
          rw [hdl]
          clear hsl hnum
          subst hr
          have HLN := Lib.hid hdl
          clear hlen hdl
          go_wp2_with fail
          refine bodyPost_ret (results_tmp2 rfl _ _ _) rfl ?_
          refine ⟨⟨OA, OC, ?_, ?_⟩, HB.out⟩
          · rw [HLN.out]; rfl
          · rw [HLN.out]; exact HS.out
        | succ f =>
          have hlen : done.length < nT := by omega
          have hform : ∃ OA OC, u10 = .slice OA done.length OC := by
            obtain ⟨OA, OC, h9⟩ := (SlV.of_own HO.out.own).form
            rw [show (nats done).length = done.length by simp [nats]] at h9
            exact ⟨OA, OC, h9⟩
          obtain ⟨OA, OC, rfl⟩ := hform
          have hlI : (done.length : Int) < (nT : Int) := by omega
          obtain ⟨dl, hdl⟩ : ∃ dl, done.length = dl := ⟨_, rfl⟩
          have HDL := Lib.hid hdl
          rw [hdl] at hlI hlen ⊢
          obtain ⟨wo, hwo⟩ : ∃ wo, wo = wr := ⟨_, rfl⟩
          subst hwo
          clear hnum hdl
          go_wp2_with fail
          go_loopw [11, 12] (fun nx i wz => ∃ a : Nat, a ≤ k ∧ i = .int .i64 a ∧ nx = .int .i64 (nxI (nxO k (E L) T a)) ∧ wo = wz) (fun _ i _ => k - (intOf i).toNat)
          case atStart => exact ⟨0, by omega, rfl, rfl, rfl⟩
          case round =>
            obtain ⟨a, ha, rfl, rfl, rfl⟩ := hrel
            by_cases hak : a < k
            · have HAK := Lib.hid hak
              have hcell : wo.cell? ⟨w1.heap.size, a, none⟩ = some (.bool (T a)) := by rw [HO.out.blk.cell, arrN_at _ hak]
              have hnx := nxO_next k (E L) T a
              obtain ⟨tb, hta⟩ : ∃ tb, T a = tb := ⟨_, rfl⟩
              rw [hta] at hcell hnx
              have haI : (a : Int) < (k : Int) := by omega
              have ha0 : (0 : Int) ≤ (a : Int) := by omega
              cases tb with
              | false =>
                have HNX := Lib.hid (show nxI (nxO k (E L) T (a + 1)) = nxI (nxO k (E L) T a) by rw [hnx]; cases nxO k (E L) T a <;> simp)
                generalize nxI (nxO k (E L) T a) = nI at HNX ⊢
                clear hnx
                clear hta
                go_wp2_with fail
                go_loopw [13, 14] (fun fr i wz => ∃ j : Nat, j ≤ k ∧ i = .int .i64 j ∧ fr = .bool false ∧ wo = wz) (fun _ i _ => k - (intOf i).toNat)
                case atStart => exact ⟨0, by omega, rfl, rfl, rfl⟩
                case round =>
                  obtain ⟨j, hj, rfl, rfl, rfl⟩ := hrel
                  go_wp2_with fail
                  go_roundw
                  case rel => exact ⟨a + 1, by have := HAK.out; omega, by go_num, by rw [HNX.out], by first | rfl | trivial⟩
                  case measure => have := HAK.out; simp [intOf]; omega
              | true =>
                cases hnn : nxO k (E L) T a with
                | some p0 =>
                  have HNX := Lib.hid (show nxI (nxO k (E L) T (a + 1)) = (p0 : Int) by rw [hnx, hnn]; rfl)
                  rw [show nxI (some p0) = (p0 : Int) from rfl]
                  have hp0 : ¬ (p0 : Int) < 0 := by omega
                  clear hnx hnn
                  clear hta
                  go_wp2_with fail
                  go_loopw [13, 14] (fun fr i wz => ∃ j : Nat, j ≤ k ∧ i = .int .i64 j ∧ fr = .bool false ∧ wo = wz) (fun _ i _ => k - (intOf i).toNat)
                  case atStart => exact ⟨0, by omega, rfl, rfl, rfl⟩
                  case round =>
                    obtain ⟨j, hj, rfl, rfl, rfl⟩ := hrel
                    go_wp2_with fail
                    go_roundw
                    case rel => exact ⟨a + 1, by have := HAK.out; omega, by go_num, by rw [HNX.out], by first | rfl | trivial⟩
                    case measure => have := HAK.out; simp [intOf]; omega
                | none =>
                  rw [hnn] at hnx
                  dsimp only at hnx
                  rw [show nxI none = -1 from rfl]
                  have HNX := Lib.hid hnx
                  clear hnx hnn hta
                  go_wp2_with fail
                  go_loopw [13, 14] (fun fr i wz => ∃ j : Nat, j ≤ k ∧ i = .int .i64 j ∧ fr = .bool (freeB (E L) T a j) ∧ wo = wz) (fun _ i _ => k - (intOf i).toNat)
                  case atStart => exact ⟨0, by omega, rfl, rfl, rfl⟩
                  case round =>
                    obtain ⟨j, hj, rfl, rfl, rfl⟩ := hrel
                    obtain ⟨fb, hfb⟩ : ∃ fb, freeB (E L) T a j = fb := ⟨_, rfl⟩
                    rw [hfb]
                    cases fb with
                    | false =>
                      have HNX2 := Lib.hid (show nxI (nxO k (E L) T (a + 1)) = -1 by
                        have h9 : ((List.range k).all fun x => !(T x && E L x a)) = false := freeB_no hfb hj
                        rw [HNX.out, h9]; rfl)
                      clear hfb
                      go_wp2_with fail
                      go_roundw
                      case rel => exact ⟨a + 1, by have := HAK.out; omega, by go_num, by rw [HNX2.out], by first | rfl | trivial⟩
                      case measure => have := HAK.out; simp [intOf]; omega
                    | true =>
                      by_cases hjk : j < k
                      · have HJK := Lib.hid hjk
                        have HFN := Lib.hid (freeB_next (E L) T a j)
                        rw [hfb] at HFN
                        have hcj : wo.cell? ⟨w1.heap.size, j, none⟩ = some (.bool (T j)) := by rw [HO.out.blk.cell, arrN_at _ hjk]
                        obtain ⟨tj, htj⟩ : ∃ tj, T j = tj := ⟨_, rfl⟩
                        rw [htj] at hcj HFN
                        have HE := Lib.hid (by
                          have := edge_any wo w1.heap.size A1 c1 L (by rw [HGL.out]; exact HG1.out.below HO.out.bel) j a (by rw [HGL.out]; exact hjk) (by rw [HGL.out]; exact HAK.out)
                          rw [HGL.out] at this; exact this)
                        obtain ⟨eb, heb⟩ : ∃ eb, E L j a = eb := ⟨_, rfl⟩
                        rw [heb] at HE HFN
                        have hjI : (j : Int) < (k : Int) := by omega
                        have hj0 : (0 : Int) ≤ (j : Int) := by omega
                        clear hfb htj heb
                        cases tj with
                        | false =>
                          go_wp2_with fail
                          go_roundw
                          case rel => exact ⟨j + 1, by have := HJK.out; omega, by go_num, by rw [HFN.out]; rfl, by first | rfl | trivial⟩
                          case measure => have := HJK.out; simp [intOf]; omega
                        | true =>
                          cases eb with
                          | false =>
                            go_wp2_with (go_at_call 24; refine HE.out.mono ?_; rintro e w2 ⟨rfl, rfl⟩)
                            go_roundw
                            case rel => exact ⟨j + 1, by have := HJK.out; omega, by go_num, by rw [HFN.out]; rfl, by first | rfl | trivial⟩
                            case measure => have := HJK.out; simp [intOf]; omega
                          | true =>
                            go_wp2_with (go_at_call 24; refine HE.out.mono ?_; rintro e w2 ⟨rfl, rfl⟩)
                            go_roundw
                            case rel => exact ⟨j + 1, by have := HJK.out; omega, by go_num, by rw [HFN.out]; rfl, by first | rfl | trivial⟩
                            case measure => have := HJK.out; simp [intOf]; omega
                      · obtain rfl : j = k := by omega
                        have HNX2 := Lib.hid (show nxI (nxO j (E L) T (a + 1)) = (a : Int) by
                          have h9 : ((List.range j).all fun x => !(T x && E L x a)) = true := hfb
                          rw [HNX.out, h9]; rfl)
                        clear hfb
                        go_wp2_with fail
                        go_roundw
                        case rel => exact ⟨a + 1, by have := HAK.out; omega, by go_num, by rw [HNX2.out], by first | rfl | trivial⟩
                        case measure => have := HAK.out; simp [intOf]; omega
            · obtain rfl : a = k := by omega
              have HPK := Lib.hid (nxO_pick a (E L) T)
              cases hpk : nxO a (E L) T a with
              | none =>
                have hr := HO.out.none (by rw [← HPK.out]; exact hpk)
                subst hr
                rw [show nxI none = -1 from rfl]
                have HB := Lib.hid (HB1.out.trans (HO.out.bel.mono HB1.out.size))
                clear hpk
                go_wp2
                refine bodyPost_ret (results_tmp2 rfl _ _ _) rfl ?_
                exact ⟨rfl, HB.out⟩
              | some q0 =>
                rw [show nxI (some q0) = (q0 : Int) from rfl]
                have hq : q0 < a := nxO_lt hpk
                have hqI : (q0 : Int) < (a : Int) := by omega
                have hq0 : (0 : Int) ≤ (q0 : Int) := by omega
                have hqn : ¬ (q0 : Int) < 0 := by omega
                have hcq : wo.cell? ⟨w1.heap.size, q0, none⟩ = some (.bool (T q0)) := by rw [HO.out.blk.cell, arrN_at _ hq]
                have hfq : wo.frozen? ⟨w1.heap.size, q0, none⟩ = false := HO.out.blk.frozen q0
                generalize T q0 = tq at hcq
                obtain ⟨W3, hW3⟩ : ∃ W3, wo.setCell ⟨w1.heap.size, q0, none⟩ (.bool false) = W3 := ⟨_, rfl⟩
                have hblk3 : Blk W3 w1.heap.size 4 (arrN a fun j => .bool (minus T q0 j)) := by
                  have := HO.out.blk.stored q0 (.bool false)
                  rw [arrN_set, hW3] at this
                  have e : (fun j => if j = q0 then Value.bool false else .bool (T j)) = fun j => .bool (minus T q0 j) := funext fun j => by
                    by_cases hj : j = q0
                    · subst hj; rw [if_pos rfl]; unfold minus; simp
                    · rw [if_neg hj, minus_ne hj]
                  rw [e] at this; exact this
                have hk3 : Keeps (fun b => b ≠ w1.heap.size) wo W3 := by rw [← hW3]; exact (Keeps.refl _ wo).setCell (fun h => h rfl) _
                have hbel3 : Below w1.heap.size w1 W3 := HO.out.bel.trans (hk3.below (HO.out.bel.size) fun k hk => by omega)
                have HOA := Lib.hid (own_keep (w' := W3.alloc (.cells #[.int .i64 (q0 : Int)] 3)) HO.out.own fun g hg hlt _ => (Below.heap_alloc _ _ _ (Nat.lt_of_lt_of_le hlt hk3.size)).trans (hk3.block g (by omega) hlt))
                have HLT3 := Lib.hid HO.out.own.lt
                rw [HDL.out] at HLT3
                have HNW := Lib.hid (show (W3.alloc (.cells #[.int .i64 (q0 : Int)] 3)).cell? ⟨W3.heap.size, 0, none⟩ = some (.int .i64 (q0 : Int)) by rw [(Blk.new W3 3 _).cell]; rfl)
                have HS1 := Lib.hid (show done.length + 1 ≤ maxLen by have := HDL.out; unfold maxLen; omega)
                have HS2 := Lib.hid (show (done.length + 1) * 8 ≤ 140737488355328 by have := HDL.out; omega)
                have hsz3 := hblk3.lt
                have HS3 := Lib.hid (show w1.heap.size + 1 ≤ (W3.alloc (.cells #[.int .i64 (q0 : Int)] 3)).heap.size by simp; omega)
                have HBK := Lib.hid hblk3
                have HBL := Lib.hid hbel3
                have HP2 := Lib.hid (show pick a (E L) T = some q0 by rw [← HPK.out]; exact hpk)
                rw [HDL.out] at HOA HS1 HS2
                clear hblk3 hk3 hbel3 hpk hsz3
                go_wp2_with (at_builtin; refine wpList_append_where _ rfl _ _ 26 rfl (w1.heap.size + 1) 3 i0 (.int .i64 0) 8 Try.underlying26 hi hz0 hz1 hz2 rfl (.slice OA dl OC) _ _ rfl HOA.out ⟨W3.heap.size, 0, none⟩ 1 (.int .i64 (q0 : Int)) rfl HNW.out rfl HS1.out HS2.out HS3.out ?_; intro v' w' h2 h3 h4; clear h4; have H2 := Lib.hid h2; have H3 := Lib.hid h3; clear h2 h3)
                have hlo9 := HLT3.out
                have hblk9 : Blk w' w1.heap.size 4 (arrN a fun j => .bool (minus T q0 j)) := (H3.out.block _ (by have := HBK.out.lt; simp; omega) (fun e => by have := (hlo9 _ e.symm).1; omega)).trans (HBK.out.alloc _)
                have hbel9 : Below w1.heap.size w1 w' := (HBL.out.alloc HBL.out.size _).grown H3.out (by have := HBL.out.size; simp; omega) fun r e => by have := (hlo9 r e).1; omega
                have hown9 : w'.ownsRow (w1.heap.size + 1) 3 1 v' (done.length + 1) (nats done ++ [.int .i64 (q0 : Int)]) := by rw [HDL.out]; exact H2.out
                have HFIN := Lib.hid (HO.out.next HP2.out hown9 hblk9 hbel9)
                clear hblk9 hbel9 hown9 hlo9
                go_roundg f
                case measure => omega
                case rel => exact ⟨_, _, HFIN⟩
end Go.Proofs.Ytlfgnoicjogfpaa.By
