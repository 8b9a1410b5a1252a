/-
  WALKS of layer 13: tables of bytes: Get.
-/
import Derived.Test.YtckpbdphilifoaaWl
import Derived.Test.YtckpbdphilifoaaRf
namespace Go.Proofs.Ytckpbdphilifoaa.By
open Go.RowKit
open Mem Gm Rf
set_option linter.unusedSimpArgs false

/-- The next so many runs: the runs, what is wrong, how the reader stands. -/
def gets (l : List UInt8) : Nat → Std → List Rn × Int × Std
  | 0, s => ([], if s.2 = false then 5 else 0, s)
  | n + 1, s => if tkE l s = 0 then (if (gets l n (s5 l s)).2.1 = 0 then (tkX l s :: (gets l n (s5 l s)).1, 0, (gets l n (s5 l s)).2.2) else ([], (gets l n (s5 l s)).2.1, (gets l n (s5 l s)).2.2)) else ([], tkE l s, s5 l s)
def cmb (xs : List Rn) (r : List Rn × Int × Std) : List Rn × Int × Std := if r.2.1 = 0 then (xs ++ r.1, 0, r.2.2) else ([], r.2.1, r.2.2)
theorem gets_ok {l : List UInt8} {m : Nat} {s : Std} (h : tkE l s = 0) : gets l (m + 1) s = cmb [tkX l s] (gets l m (s5 l s)) := by
  rw [gets, if_pos h]; rfl
theorem gets_bad {l : List UInt8} {m : Nat} {s : Std} (h : tkE l s ≠ 0) : gets l (m + 1) s = ([], tkE l s, s5 l s) := by rw [gets, if_neg h]
theorem cmb_cmb (xs ys : List Rn) (r : List Rn × Int × Std) : cmb xs (cmb ys r) = cmb (xs ++ ys) r := by
  unfold cmb
  by_cases h : r.2.1 = 0
  · rw [if_pos h, if_pos h, if_pos rfl, List.append_assoc]
  · rw [if_neg h, if_neg h, if_neg h]
theorem cmb_nil (r : List Rn × Int × Std) (h : r.2.1 ≠ 0 → r.1 = []) : cmb [] r = r := by
  unfold cmb
  by_cases h0 : r.2.1 = 0
  · rw [if_pos h0]
    obtain ⟨a, b, c⟩ := r
    simp only at h0
    rw [h0]; rfl
  · rw [if_neg h0]
    obtain ⟨a, b, c⟩ := r
    have := h h0
    simp only at this
    rw [this]
theorem gets_nil (l : List UInt8) : ∀ (n : Nat) (s : Std), (gets l n s).2.1 ≠ 0 → (gets l n s).1 = []
  | 0, s, _ => rfl
  | n + 1, s, h => by
    by_cases h1 : tkE l s = 0
    · rw [gets_ok h1] at h ⊢
      unfold cmb at h ⊢
      by_cases h2 : (gets l n (s5 l s)).2.1 = 0
      · rw [if_pos h2] at h; exact absurd rfl h
      · rw [if_neg h2]
    · rw [gets_bad h1]

theorem num_two (l : List UInt8) (s : Std) : 0 ≤ rvS l s 2 ∧ rvS l s 2 ≤ 65535 := by
  unfold rvS readV
  split
  · have hl : ((l.drop s.1).take (2 : Int).toNat).length ≤ 2 := by rw [List.length_take]; exact Nat.min_le_left _ _
    cases hq : (l.drop s.1).take (2 : Int).toNat with
    | nil => exact ⟨Int.le_refl _, by show (0 : Int) ≤ 65535; omega⟩
    | cons x r =>
      rw [hq] at hl
      rw [numV_plain]
      have h1 := natV_lt (x :: r)
      have h2 : 256 ^ (x :: r).length ≤ 65536 := by
        rcases Nat.lt_or_ge (x :: r).length 2 with h | h
        · have : (x :: r).length = 1 := by rw [List.length_cons] at h ⊢; omega
          rw [this]; decide
        · have : (x :: r).length = 2 := by omega
          rw [this]; decide
      rw [wrap_in _ ⟨by omega, by omega⟩]
      omega
  · omega

theorem only_grown {a b c : World} {g : Nat} {row : Option Nat} (h : a.grownBy b (some g)) (k : b.grownBy c row) (hr : ∀ r, row = some r → a.heap.size ≤ r) : a.grownBy c (some g) :=
  ⟨k.os.trans h.os, k.tape.trans h.tape, k.output.trans h.output, Nat.le_trans h.size k.size, fun i hi hne => (k.block i (Nat.lt_of_lt_of_le hi h.size) (fun e => by have := hr i e.symm; omega)).trans (h.block i hi hne)⟩
theorem below_grown {b c : World} {B : Nat} {row : Option Nat} (k : b.grownBy c row) (hr : ∀ r, row = some r → B ≤ r) (hB : B ≤ b.heap.size) : Below B b c :=
  (Below.refl B b).grown k hB hr

def GtAns (r : List Rn × Int × Std) (w : World) (g : Nat) (A : Option Addr) (c : Nat) (l : List UInt8) (e : Ending) (w' : World) : Prop :=
  ∃ A2 c2, e = .returned (.tuple #[.slice A2 r.1.length c2, .int .i64 r.2.1]) ∧ RnL w' A2 r.1.length c2 r.1 ∧ RdS w' g A c l r.2.2 ∧ w.grownBy w' (some g)

set_option maxRecDepth 100000 in
set_option maxHeartbeats 4000000 in
theorem getRuns_any (w : World) (g : Nat) (A : Option Addr) (c : Nat) (l : List UInt8) (s : Std) (h : RdS w g A c l s) :
    Calls Try.prog 22 #[.pointer (some ⟨g, 0, none⟩)] w (GtAns (gets l (rvS l s 2).toNat (pgS l s 2)) w g A c l) := by
  obtain ⟨i0, hi, hz0, hz1, hz2⟩ := info_parts infoRn
  have hg : g < w.heap.size := h.blk.lt
  have HG := Lib.hid hg
  obtain ⟨N, hN⟩ : ∃ N, (rvS l s 2).toNat = N := ⟨_, rfl⟩
  have h2 := num_two l s
  have hNI : rvS l s 2 = (N : Int) := by omega
  have HN9 := Lib.hid (show N ≤ 65535 by omega)
  have HNUM := Lib.hid (num_s w g A c l s h 2)
  unfold NumS at HNUM
  rw [hNI] at HNUM
  rw [hN]
  obtain ⟨s0, hs0⟩ : ∃ s0, pgS l s 2 = s0 := ⟨_, rfl⟩
  rw [hs0] at HNUM ⊢
  have HTK := Lib.hid (fun W s (h : RdS W g A c l s) => take_run W g A c l s h)
  have HBD := Lib.hid (fun W s (h : RdS W g A c l s) => bad_s W g A c l s h)
  obtain ⟨R, hR⟩ : ∃ R, gets l N s0 = R := ⟨_, rfl⟩
  have HR := Lib.hid hR
  have HRN := Lib.hid (show R.2.1 ≠ 0 → R.1 = [] from by rw [← hR]; exact gets_nil l N s0)
  have HR0 := Lib.hid (show R = cmb [] (gets l N s0) from by rw [cmb_nil _ (gets_nil l N s0)]; exact hR.symm)
  rw [hR]
  clear h hN h2 hNI hs0 hR hg
  go_enter Try.func22, Try.ntmps22
  go_wp2_with (go_at_call 44; refine HNUM.out.mono ?_; rintro e w1 ⟨rfl, hr1, hg1⟩; have HR1 := Lib.hid hr1; have HG1 := Lib.hid hg1; clear hr1 hg1)
  go_loopw [4, 9] (fun v i wr => ∃ (k : Nat) (s' : Std) (xs : List Rn), k ≤ N ∧ i = .int .i64 (k : Int) ∧ Hid (xs.length = k) ∧ RdS wr g A c l s' ∧ wr.ownsRow w.heap.size 60 5 v k (flRn xs) ∧ w.grownBy wr (some g) ∧ Hid (R = cmb xs (gets l (N - k) s'))) (fun _ i _ => N - (intOf i).toNat)
  case atStart => exact ⟨0, s0, [], Nat.zero_le _, rfl, Lib.hid rfl, HR1.out, World.ownsRow_nil _ _ _ _, HG1.out, Lib.hid HR0.out⟩
  case round =>
    obtain ⟨k, s', xs, hk, rfl, HXL, hrd, hown, hgr, HINV⟩ := hrel
    have HRD := Lib.hid hrd
    have HOW := Lib.hid hown
    have HGR := Lib.hid hgr
    clear hrd hown hgr
    by_cases hlt : k < N
    · have hkI : (k : Int) < (N : Int) := by omega
      have hk9 : k ≤ 65535 := by have := HN9.out; omega
      have hsub : N - k = (N - (k + 1)) + 1 := by omega
      have HT := Lib.hid (HTK.out wr s' HRD.out)
      unfold TkAns aggRn at HT
      by_cases he : tkE l s' = 0
      · have HINV2 := Lib.hid (show R = cmb (xs ++ [tkX l s']) (gets l (N - (k + 1)) (s5 l s')) from by rw [HINV.out, hsub, gets_ok he, cmb_cmb])
        have hx : tkR l s' = tkX l s' := by unfold tkR; rw [if_pos he]
        rw [hx, he] at HT
        generalize tkX l s' = x at HT HINV2
        clear hx he hsub HINV
        go_wp2_with (first
          | (go_at_call 45; refine HT.out.mono ?_; rintro e w2 ⟨rfl, hr2, hg2⟩; have HR2 := Lib.hid hr2; have HG2 := Lib.hid hg2; clear hr2 hg2)
          | (at_builtin; go_loud (refine wpList_append_own _ rfl _ _ 23 rfl w.heap.size 60 i0 (.agg #[.int .i64 0, .int .i64 0, .int .i64 0, .bool false, .int .i64 0]) 5 40 Try.underlying23 hi hz0 hz1 hz2 rfl (by decide) _ _ _ rfl (ownk_keep HOW.out fun gg hb hlt => (Below.heap_alloc _ _ _ (Nat.lt_of_lt_of_le hlt (Nat.le_trans HG2.out.size (alloc_ w2 _).size))).trans ((Below.heap_alloc _ _ _ (Nat.lt_of_lt_of_le hlt HG2.out.size)).trans (HG2.out.block gg hlt (fun e => by injection e with e; have := HG.out; omega)))) ⟨w2.heap.size + 1, 0, none⟩ 1 1 (encRn x) rfl rfl (fun j u hu => by rw [add_plain, Nat.zero_add]; have h9 := (Blk.new (w2.alloc (.cells #[.int .i64 x.1, .int .i64 x.2.1, .int .i64 x.2.2.1, .bool x.2.2.2.1, .int .i64 x.2.2.2.2] 60)) 60 #[.int .i64 x.1, .int .i64 x.2.1, .int .i64 x.2.2.1, .bool x.2.2.2.1, .int .i64 x.2.2.2.2]).cell j; rw [World.size_alloc] at h9; exact h9.trans (by simpa [encRn] using hu)) (by simp [encRn, Value.oneCell']) (by unfold maxLen; omega) (by omega) (by have := HGR.out.size; have := HG2.out.size; simp; omega) ?_; intro v' w4 h2 h3 h4; clear h4; rw [flRn_snoc] at h2; have H2 := Lib.hid h2; have H3 := Lib.hid h3; clear h2 h3)))
        go_roundw
        case rel =>
          have hgA : w.grownBy ((w2.alloc (.cells #[.int .i64 x.1, .int .i64 x.2.1, .int .i64 x.2.2.1, .bool x.2.2.2.1, .int .i64 x.2.2.2.2] 60)).alloc (.cells #[.int .i64 x.1, .int .i64 x.2.1, .int .i64 x.2.2.1, .bool x.2.2.2.1, .int .i64 x.2.2.2.2] 60)) (some g) := only_alloc (only_alloc (only_to HGR.out HG2.out) _) _
          have hr := fun r (e : _ = some r) => (HOW.out.lt r e).1
          have hgs := Nat.le_trans HGR.out.size HG2.out.size
          refine ⟨k + 1, s5 l s', xs ++ [x], by omega, by go_num, Lib.hid (by rw [List.length_append, HXL.out]; rfl), ?_, H2.out, only_grown hgA H3.out hr, Lib.hid HINV2.out⟩
          have hb := (to_ (alloc_ w2 (.cells #[.int .i64 x.1, .int .i64 x.2.1, .int .i64 x.2.2.1, .bool x.2.2.2.1, .int .i64 x.2.2.2.2] 60)) (alloc_ _ (.cells #[.int .i64 x.1, .int .i64 x.2.1, .int .i64 x.2.2.1, .bool x.2.2.2.1, .int .i64 x.2.2.2.2] 60))).mono hgs
          exact Rdr.below HR2.out (hb.grown H3.out (Nat.le_trans hgs hb.size) hr) HG.out
        case measure => simp [intOf]; omega
      · have HF := Lib.hid (show R = ([], tkE l s', s5 l s') from by rw [HINV.out, hsub, gets_bad he]; unfold cmb; rw [if_neg he])
        generalize tkR l s' = x at HT
        generalize tkE l s' = er at HT HF he
        have hne : (er != 0) = true := by simpa using he
        clear he hsub HINV
        go_wp2_with (go_at_call 45; refine HT.out.mono ?_; rintro e w2 ⟨rfl, hr2, hg2⟩; have HR2 := Lib.hid hr2; have HG2 := Lib.hid hg2; clear hr2 hg2)
        refine bodyPost_ret (results_tmp2 rfl _ _ _) rfl ?_
        refine ⟨none, 0, by rw [HF.out]; rfl, by rw [HF.out]; exact Wd.nil, ?_, only_alloc (only_to HGR.out HG2.out) _⟩
        rw [HF.out]
        exact Rdr.below HR2.out ((alloc_ w2 _).mono (Nat.le_trans HGR.out.size HG2.out.size)) HG.out
    · obtain rfl : k = N := by omega
      have hb := HBD.out wr s' HRD.out
      obtain ⟨bl, hbl⟩ : ∃ bl, s'.2 = bl := ⟨_, rfl⟩
      rw [hbl] at hb
      have HB := Lib.hid hb
      have hz := HINV.out
      rw [Nat.sub_self] at hz
      cases bl with
      | false =>
        have HF := Lib.hid (show R = ([], 5, s') from by rw [hz]; unfold gets cmb; rw [hbl]; rfl)
        clear hz hb hbl
        go_wp2_with (go_at_call 46; refine HB.out.mono ?_; rintro e w10 ⟨rfl, rfl⟩)
        refine bodyPost_ret (results_tmp2 rfl _ _ _) rfl ?_
        exact ⟨none, 0, by rw [HF.out]; rfl, by rw [HF.out]; exact Wd.nil, by rw [HF.out]; exact HRD.out, HGR.out⟩
      | true =>
        have HF := Lib.hid (show R = (xs, 0, s') from by rw [hz]; unfold gets cmb; rw [hbl]; simp)
        obtain ⟨A2, c2, rfl, hl⟩ := RnL.own HXL.out HOW.out
        have HL := Lib.hid hl
        clear hz hb hbl hl
        go_wp2_with (go_at_call 46; refine HB.out.mono ?_; rintro e w10 ⟨rfl, rfl⟩)
        refine bodyPost_ret (results_tmp2 rfl _ _ _) rfl ?_
        refine ⟨A2, c2, ?_, ?_, by rw [HF.out]; exact HRD.out, HGR.out⟩
        · rw [HF.out]; simp [HXL.out]
        · rw [HF.out]; simp only [HXL.out]; exact HL.out
end Go.Proofs.Ytckpbdphilifoaa.By
