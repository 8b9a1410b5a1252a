/-
  WALK of layer 11: waiting: the members, each with the number of edges that lead to it.
-/
import Derived.Test.YtlfgnoicjogfpaaCf
import Derived.Test.YtlfgnoicjogfpaaCg
import Derived.Test.YtlfgnoicjogfpaaGf
namespace Go.Proofs.Ytlfgnoicjogfpaa.By
open Go.RowKit
open Mem Gm Rf Hp Qu

/-- How many of those that wait lead to a place. -/
def cntT (n : Nat) (R : Nat → Nat → Bool) (T : Nat → Bool) (p : Nat) : Nat := ((List.range n).filter fun a => T a && R a p).length
/-- Who waits, each with that number. -/
def SQ (n : Nat) (R : Nat → Nat → Bool) (T : Nat → Bool) (x : It) : Prop := ∃ p, p < n ∧ T p = true ∧ x = ((p : Int), (cntT n R T p : Int))
theorem cnt_le (n : Nat) (R : Nat → Nat → Bool) (T : Nat → Bool) (p : Nat) : cntT n R T p ≤ n := by
  unfold cntT
  refine Nat.le_trans (List.length_filter_le _ _) ?_
  simp

theorem edgesL_gr (n : Nat) (R : Nat → Nat → Bool) : (edgesL (gr n R)).length ≤ n * n := by
  unfold edgesL
  rw [gr_length]
  have : ∀ (l : List Nat), (∀ a ∈ l, a < n) → (l.flatMap fun a => rowE (gr n R) a (rowOf (gr n R) a)).length ≤ l.length * n := by
    intro l
    induction l with
    | nil => intro _; simp
    | cons a l ih =>
      intro h
      rw [List.flatMap_cons, List.length_append, List.length_cons]
      have h1 := ih fun b hb => h b (List.mem_cons_of_mem _ hb)
      have h2 : (rowE (gr n R) a (rowOf (gr n R) a)).length ≤ n := by
        unfold rowE
        rw [List.length_map]
        refine Nat.le_trans (List.length_filter_le _ _) ?_
        rw [gr_rowOf (h a (List.mem_cons_self)), coeL, List.length_map]
        refine Nat.le_trans (List.length_filter_le _ _) ?_
        simp
      rw [Nat.succ_mul]; omega
  have h := this (List.range n) fun a ha => List.mem_range.1 ha
  simpa using h
theorem small_gr {n : Nat} (R : Nat → Nat → Bool) (hn : n ≤ 1000) : Small (gr n R) := by
  refine ⟨by rw [gr_length]; exact hn, Nat.le_trans (edgesL_gr n R) ?_⟩
  exact Nat.mul_le_mul hn hn

/-- The members' edges. -/
def RM (g : List (List Int)) (ins : List Bool) (a b : Nat) : Bool := E g a b && (memV ins a && memV ins b)
theorem turn_inn (g : List (List Int)) (ins : List Bool) : turn (innG g ins) = gr g.length fun a b => RM g ins b a := by
  unfold turn
  rw [show (innG g ins).length = g.length from gr_length _ _]
  refine gr_ext _ fun a b ha hb => ?_
  rw [Bool.eq_iff_iff, innG, gr_E]
  unfold RM
  exact ⟨fun h => h.2.2, fun h => ⟨hb, ha, h⟩⟩
theorem row_cnt (g : List (List Int)) (ins : List Bool) {p : Nat} (hp : p < g.length) : (rowOf (turn (innG g ins)) p).length = cntT g.length (RM g ins) (memV ins) p := by
  rw [turn_inn, gr_rowOf hp, coeL, List.length_map]
  unfold cntT
  congr 1
  refine List.filter_congr fun a _ => ?_
  unfold RM
  cases memV ins a <;> simp

/-- Those that wait of the places ahead of the k-th one. -/
def SQto (n : Nat) (R : Nat → Nat → Bool) (T : Nat → Bool) (k : Nat) (x : It) : Prop := ∃ p, p < k ∧ T p = true ∧ x = ((p : Int), (cntT n R T p : Int))

def WaitAns (g : List (List Int)) (ins : List Bool) (w : World) (e : Ending) (w' : World) : Prop :=
  ∃ q U m, e = .returned (.pointer (some ⟨q, 0, none⟩)) ∧ Qs w' q U m (SQ g.length (RM g ins) (memV ins)) ∧ (∀ b, U b → w.heap.size ≤ b) ∧ w.heap.size ≤ q ∧ Below w.heap.size w w' ∧ m ≤ g.length

set_option maxRecDepth 100000 in
set_option maxHeartbeats 4000000 in
theorem waiting_any (A A2 : Option Addr) (c c2 M B N : Nat) (g : List (List Int)) (ins : List Bool) (w : World) (hN : g.length = N) (hG : Gr w B (.slice A N c) (innG g ins)) (hM : ins.length = M) (hI : SlV w B (.slice A2 M c2) (bls ins)) (hB : B ≤ w.heap.size) (hs : N ≤ 500) :
    Calls Try.prog 100 #[.slice A N c, .slice A2 M c2] w (WaitAns g ins w) := by
  have hil : (innG g ins).length = N := by rw [← hN]; exact gr_length _ _
  have HT := Lib.hid (fun W (h : Gr W B (.slice A N c) (innG g ins)) (hb : B ≤ W.heap.size) => by
    have := turn_any A c B (innG g ins) W (by rw [hil]; exact h) hb (by unfold innG; exact small_gr _ (by omega))
    rw [hil] at this; exact this)
  have HG := Lib.hid hG
  have HI := Lib.hid hI
  have HRC := Lib.hid (fun p (h : p < N) => row_cnt g ins (p := p) (by omega))
  have HTL := Lib.hid (show (turn (innG g ins)).length = N by rw [turn_length]; exact hil)
  have HN := Lib.hid hN
  have HMM := Lib.hid (fun W B p (h : SlV W B (.slice A2 M c2) (bls ins)) => mem_any W B M c2 A2 ins p hM h)
  clear hG hI hil
  generalize turn (innG g ins) = tg at HT HRC HTL
  go_enter Try.func100, Try.ntmps100
  go_wp2_with fail
  refine (new_any w).mono ?_
  rintro e w1 ⟨rfl, hq1, hb1⟩
  have HQ1 := Lib.hid hq1
  have HB1 := Lib.hid hb1
  have HS1 := Lib.hid (hq1.lt)
  have HT1 := Lib.hid (HT.out w1 (HG.out.below (hb1.mono hB)) (by have := hb1.size; omega))
  clear hq1 hb1
  go_wp2_with fail
  refine HT1.out.mono ?_
  rintro e w2 ⟨A3, c3, rfl, hg3, hb2, hst⟩
  have HST := Lib.hid hst
  have HQ2 := Lib.hid (HQ1.out.below hb2)
  have HB2 := Lib.hid (HB1.out.trans (hb2.mono HB1.out.size))
  have HZ2 := Lib.hid hb2.size
  have HMX := Lib.hid (show N ≤ 9223372036854775807 by omega)
  clear hg3 hb2 hst HT1 HQ1
  go_wp2_with fail
  go_loopw [12] (fun i wr => ∃ (k : Nat) (U : Nat → Prop) (m : Nat), k ≤ N ∧ i = .int .i64 k ∧ m ≤ k ∧ Hid (Qs wr (w.heap.size + 2) U m (SQto N (RM g ins) (memV ins) k)) ∧ Hid (∀ b, U b → w.heap.size ≤ b ∧ (b < w1.heap.size ∨ w2.heap.size ≤ b)) ∧ Hid (Keeps (fun k => w1.heap.size ≤ k) w2 wr) ∧ Hid (Below w.heap.size w wr)) (fun i _ => N - (intOf i).toNat)
  case atStart => exact ⟨0, _, 0, Nat.zero_le _, rfl, Nat.le_refl _, Lib.hid (HQ2.out.congr fun x => ⟨fun h => h.elim, fun ⟨p, hp, _⟩ => by omega⟩), Lib.hid (fun b hb => ⟨hb.1, .inl (HS1.out.2 b hb)⟩), Lib.hid (Keeps.refl _ _), HB2⟩
  case round =>
    obtain ⟨k, U, m, hk, rfl, hmk, HQ, HU, HK, HB⟩ := hrel
    obtain ⟨wz, hwz⟩ : ∃ wz, wz = wr := ⟨_, rfl⟩
    subst hwz
    by_cases hlt : k < N
    · have hkI : (k : Int) < (N : Int) := by omega
      have hgz := HST.out wz HK.out
      rw [← HTL.out] at hgz
      obtain ⟨ad, c9, hAe, _, _, hbad, hrows⟩ := hgz.rows (by rw [HTL.out]; omega)
      injection hAe with hA3 _ hC9
      obtain ⟨A', c', hcell, _⟩ := hrows k (by rw [HTL.out]; exact hlt)
      rw [HRC.out k hlt, HN.out] at hcell
      have hme := HMM.out wz B k (HI.out.below (HB.out.mono hB))
      have hcn := cnt_le N (RM g ins) (memV ins) k
      have HCN := Lib.hid (show ((cntT N (RM g ins) (memV ins) k : Nat) : Int) ≤ 1000000 by omega)
      obtain ⟨ct, hct⟩ : ∃ ct, cntT N (RM g ins) (memV ins) k = ct := ⟨_, rfl⟩
      rw [hct] at hcell HCN
      have HCT := Lib.hid hct
      subst hA3 hC9
      clear hct hrows hbad hgz hcn
      obtain ⟨mb, hmb⟩ : ∃ mb, memV ins k = mb := ⟨_, rfl⟩
      rw [hmb] at hme
      have HME := Lib.hid hme
      have HMB := Lib.hid hmb
      clear hme hmb
      cases mb with
      | false =>
        have HQ9 := Lib.hid (HQ.out.congr (S' := SQto N (RM g ins) (memV ins) (k + 1)) fun x => by
          constructor
          · rintro ⟨p, hp, h⟩
            exact ⟨p, by omega, h⟩
          · rintro ⟨p, hp, h1, h2⟩
            rcases Nat.lt_succ_iff_lt_or_eq.1 hp with h | rfl
            · exact ⟨p, h, h1, h2⟩
            · rw [HMB.out] at h1; cases h1)
        go_wp2_with fail
        refine HME.out.mono ?_
        rintro e w5 ⟨rfl, rfl⟩
        go_wp2_with fail
        go_roundw
        case rel => exact ⟨k + 1, U, m, by omega, by go_num, by omega, HQ9, HU, HK, HB⟩
        case measure => simp [intOf]; omega
      | true =>
        have HP := Lib.hid (put_yes wz (w.heap.size + 2) U m _ HQ.out ((k : Int), (ct : Int)) ⟨⟨by show (-9223372036854775808 : Int) ≤ (k : Int); omega, by show (k : Int) ≤ 9223372036854775807; omega⟩, ⟨by show (-9223372036854775808 : Int) ≤ (ct : Int); omega, by have := HCN.out; show (ct : Int) ≤ 9223372036854775807; omega⟩⟩ (by omega) (fun y ⟨p, hp, _, h2⟩ e => by
          rw [h2] at e; have e2 : (p : Int) = (k : Int) := e; omega))
        unfold PutPost at HP
        go_wp2_with fail
        refine HME.out.mono ?_
        rintro e w5 ⟨rfl, rfl⟩
        go_wp2_with fail
        refine HP.out.mono ?_
        rintro e w6 ⟨rfl, hq6, ht6⟩
        have HQ9 := Lib.hid (hq6.congr (S' := SQto N (RM g ins) (memV ins) (k + 1)) fun x => by
          constructor
          · rintro (⟨p, hp, h⟩ | rfl)
            · exact ⟨p, by omega, h⟩
            · exact ⟨k, by omega, HMB.out, by rw [HCT.out]⟩
          · rintro ⟨p, hp, h1, h2⟩
            rcases Nat.lt_succ_iff_lt_or_eq.1 hp with h | rfl
            · exact .inl ⟨p, h, h1, h2⟩
            · right; rw [h2, HCT.out])
        have hsz := HK.out.size
        have HU9 := Lib.hid (show ∀ b, Qu.Gr U wz w6 b → w.heap.size ≤ b ∧ (b < w1.heap.size ∨ w2.heap.size ≤ b) from fun b hb => by
          rcases hb with hb | ⟨hb, _⟩
          · exact HU.out b hb
          · have := HB.out.size; exact ⟨by omega, .inr (by omega)⟩)
        have HK9 := Lib.hid (show Keeps (fun k => w1.heap.size ≤ k) w2 w6 from ⟨ht6.os.trans HK.out.os, ht6.tape.trans HK.out.tape, ht6.output.trans HK.out.output, Nat.le_trans hsz ht6.size, fun b hb hlt => (ht6.block b (by omega) (fun hu => by have := HU.out b hu; omega)).trans (HK.out.block b hb hlt)⟩)
        have HB9 := Lib.hid (show Below w.heap.size w w6 from ⟨ht6.os.trans HB.out.os, ht6.tape.trans HB.out.tape, ht6.output.trans HB.out.output, Nat.le_trans HB.out.size ht6.size, fun b hb => (ht6.block b (by have := HB.out.size; omega) (fun hu => by have := HU.out b hu; omega)).trans (HB.out.block b hb)⟩)
        clear hq6 ht6
        go_wp2_with fail
        go_roundw
        case rel => exact ⟨k + 1, _, m + 1, by omega, by go_num, by omega, HQ9, HU9, HK9, HB9⟩
        case measure => simp [intOf]; omega
    · obtain rfl : k = N := by omega
      have hkI : ¬ (k : Int) < (k : Int) := by omega
      have HF := Lib.hid (show Qs wz (w.heap.size + 2) U m (SQ g.length (RM g ins) (memV ins)) by rw [HN.out]; exact HQ.out)
      go_wp2_with fail
      go_ret
      exact ⟨w.heap.size + 2, U, m, rfl, HF.out, fun b hb => (HU.out b hb).1, by omega, HB.out, by rw [HN.out]; exact hmk⟩
end Go.Proofs.Ytlfgnoicjogfpaa.By
