/-
  WALKS of layer 13: tables as bytes: Put.
-/
import Derived.Test.YtckpbdphilifoaaWh
import Derived.Test.YtckpbdphilifoaaRm
namespace Go.Proofs.Ytckpbdphilifoaa.By
open Go.RowKit
open Mem Gm Rf
set_option linter.unusedSimpArgs false

def fl (b : Bool) : Int := if b then 1 else 0
theorem flag_any (b : Bool) (w : World) : Calls Try.prog 64 #[.bool b] w fun e w' => e = .returned (.int .i64 (fl b)) ∧ w = w' := by
  cases b
  all_goals
    go_enter Try.func64, Try.ntmps64
    go_wp2
    go_ret
    exact ⟨rfl, rfl⟩

/-- The bytes of the first k numbers of a run. -/
def rnK (x : Rn) (k : Nat) : List UInt8 := (([x.1, x.2.1, x.2.2.1, x.2.2.2.2] : List Int).take k).flatMap fun n => putB n 2
def rnB (x : Rn) : List UInt8 := rnK x 4 ++ putB (fl x.2.2.2.1) 1
theorem putB2 (n : Int) : (putB n 2).length = 2 := by unfold putB; rw [if_pos (by omega)]; exact be_length ..
theorem putB1 (n : Int) : (putB n 1).length = 1 := by unfold putB; rw [if_pos (by omega)]; exact be_length ..
theorem flat2 (l : List Int) : (l.flatMap fun n => putB n 2).length = 2 * l.length := by
  induction l with
  | nil => rfl
  | cons a l ih => rw [List.flatMap_cons, List.length_append, ih, putB2, List.length_cons]; omega
def numsOf (x : Rn) : List Int := [x.1, x.2.1, x.2.2.1, x.2.2.2.2]
theorem index4 (x : Rn) (k : Nat) (hk : k < 4) (W : World) : (Instr.index 94 (.agg #[.int .i64 x.1, .int .i64 x.2.1, .int .i64 x.2.2.1, .int .i64 x.2.2.2.2]) (.int .i64 (k : Int))).run Try.prog W = .ok (.int .i64 ((numsOf x).getD k 0)) W := by
  have ht : Try.prog.underlying 94 = some (.array 4 3) := by kernel_rfl
  have hs : Try.prog.cellsOf 3 = 1 := by kernel_rfl
  have hcs : k = 0 ∨ k = 1 ∨ k = 2 ∨ k = 3 := by omega
  rcases hcs with rfl | rfl | rfl | rfl
  all_goals
    unfold Instr.index
    simp [ht, hs, go_sem, numsOf]
theorem rnK_next (x : Rn) (k : Nat) (hk : k < 4) : rnK x (k + 1) = rnK x k ++ putB ((numsOf x).getD k 0) 2 := by
  have hl : (numsOf x).length = 4 := rfl
  have e : ∀ k, rnK x k = ((numsOf x).take k).flatMap fun n => putB n 2 := fun _ => rfl
  rw [e, e, List.take_succ_eq_append_getElem (by rw [hl]; exact hk), List.flatMap_append, List.getD_eq_getElem?_getD, List.getElem?_eq_getElem (by rw [hl]; exact hk)]
  simp
theorem rnK_len (x : Rn) (k : Nat) : (rnK x k).length ≤ 8 := by
  unfold rnK
  have : (([x.1, x.2.1, x.2.2.1, x.2.2.2.2] : List Int).take k).length ≤ 4 := by simp; omega
  generalize (([x.1, x.2.1, x.2.2.1, x.2.2.2.2] : List Int).take k) = l at this
  rw [flat2]; omega
theorem rnB_len (x : Rn) : (rnB x).length = 9 := by
  unfold rnB rnK
  simp [putB2, putB1]

theorem u8_own {w : World} {base : Nat} {v : Value} {l : List UInt8} (h : w.ownsRow base 5 1 v (u8s l).length (u8s l)) : SlV w w.heap.size v (u8s l) := SlV.of_own h

set_option maxRecDepth 100000 in
set_option maxHeartbeats 2000000 in
theorem bytesOf_any (x : Rn) (w : World) : Calls Try.prog 39 #[.agg #[.int .i64 x.1, .int .i64 x.2.1, .int .i64 x.2.2.1, .bool x.2.2.2.1, .int .i64 x.2.2.2.2]] w (Owns w (u8s (rnB x))) := by
  have HP := Lib.hid (fun W v l (n k : Int) (h : SlV W W.heap.size v (u8s l)) (hl : l.length ≤ 1000) => put_any v (u8s l) n k W h (u8s_one l) (by rw [u8s_length]; omega))
  obtain ⟨W1, hW1⟩ : ∃ W1, w.alloc (.cells #[.int .i64 x.1, .int .i64 x.2.1, .int .i64 x.2.2.1, .bool x.2.2.2.1, .int .i64 x.2.2.2.2] 60) = W1 := ⟨_, rfl⟩
  have hb1 : Below w.heap.size w W1 := by rw [← hW1]; exact alloc_ _ _
  have hz1 : w.heap.size < W1.heap.size := by rw [← hW1]; simp
  have hc := (Blk.new w 60 #[.int .i64 x.1, .int .i64 x.2.1, .int .i64 x.2.2.1, .bool x.2.2.2.1, .int .i64 x.2.2.2.2]).cell
  rw [hW1] at hc
  have c0 : W1.cell? ⟨w.heap.size, 0, none⟩ = some (.int .i64 x.1) := hc 0
  have c1 : W1.cell? ⟨w.heap.size, 1, none⟩ = some (.int .i64 x.2.1) := hc 1
  have c2 : W1.cell? ⟨w.heap.size, 2, none⟩ = some (.int .i64 x.2.2.1) := hc 2
  have c3 : W1.cell? ⟨w.heap.size, 3, none⟩ = some (.bool x.2.2.2.1) := hc 3
  have c4 : W1.cell? ⟨w.heap.size, 4, none⟩ = some (.int .i64 x.2.2.2.2) := hc 4
  have HB1 := Lib.hid hb1
  have HC3 := Lib.hid (show ∀ W, Below W1.heap.size W1 W → W.cell? ⟨w.heap.size, 3, none⟩ = some (.bool x.2.2.2.1) from fun W hb => (hb.cell hz1).trans c3)
  have HF := Lib.hid (flag_any x.2.2.2.1)
  have HLEN := Lib.hid (rnK_len x)
  clear hb1 hz1 hc
  go_enter Try.func39, Try.ntmps39
  go_wp2_with fail
  go_loopw [3, 18] (fun v i wr => ∃ k : Nat, k ≤ 4 ∧ i = .int .i64 (k : Int) ∧ wr.ownsRow w.heap.size 5 1 v (u8s (rnK x k)).length (u8s (rnK x k)) ∧ Below W1.heap.size W1 wr) (fun _ i _ => 4 - (intOf i).toNat)
  case atStart => exact ⟨0, Nat.zero_le _, rfl, World.ownsRow_nil _ _ _ _, Below.refl _ _⟩
  case round =>
    obtain ⟨k, hk, rfl, hown, hbel⟩ := hrel
    have HOW := Lib.hid hown
    have HBE := Lib.hid hbel
    clear hown
    by_cases hlt : k < 4
    · have hkI : (k : Int) < 4 := by omega
      have hix := index4 x k hlt
      have HNX := Lib.hid (rnK_next x k hlt)
      generalize (numsOf x).getD k 0 = z at hix HNX
      clear hbel
      go_wp2_with (go_at_call 38; refine (HP.out _ _ _ _ _ (u8_own HOW.out) (by have := HLEN.out k; omega)).mono ?_; rintro e w9 ⟨v9, rfl, ho9, hb9⟩; have HO9 := Lib.hid ho9; have HB9 := Lib.hid hb9; clear ho9 hb9)
      go_roundw
      case rel =>
        refine ⟨k + 1, by omega, by go_num, ?_, to_ HBE.out HB9.out⟩
        have h9 := HO9.out
        rw [← u8s_append, ← HNX.out] at h9
        exact own_base h9 (to_ HB1.out HBE.out).size
      case measure => simp [intOf]; omega
    · obtain rfl : k = 4 := by omega
      have c3 := HC3.out _ hbel
      clear hbel
      go_wp2_with (first
        | (go_at_call 64; refine (HF.out _).mono ?_; rintro e w9 ⟨rfl, rfl⟩)
        | (go_at_call 38; refine (HP.out _ _ _ _ _ (u8_own HOW.out) (by have := HLEN.out 4; omega)).mono ?_; rintro e w9 ⟨v9, rfl, ho9, hb9⟩; have HO9 := Lib.hid ho9; have HB9 := Lib.hid hb9; clear ho9 hb9))
      go_ret
      have hbb := to_ HB1.out HBE.out
      refine ⟨_, rfl, ?_, to_ hbb HB9.out⟩
      have h9 := HO9.out
      rw [← u8s_append] at h9
      exact own_base h9 hbb.size

theorem own_formW {w : World} {base n : Nat} {v : Value} {xs : List Value} {e : TypeId} {k : Nat} (h : w.ownsRow base e k v n xs) : ∃ A c, v = .slice A n c := by
  rcases h.2 with ⟨rfl, rfl⟩ | ⟨g, cap, cur, rfl, _⟩
  · exact ⟨none, 0, rfl⟩
  · exact ⟨_, cap, rfl⟩

theorem two_parts (wr : World) (A2 A3 : Option Addr) (m c2 c3 : Nat) (bs os : List UInt8) (hm : bs.length = m) (h1 : SlV wr wr.heap.size (.slice A2 m c2) (u8s bs)) (h2 : SlV wr wr.heap.size (.slice A3 (u8s os).length c3) (u8s os)) (hl : m ≤ 1000000) (hl2 : (u8s os).length ≤ 1000000) :
    Calls Try.prog 40 #[.slice (some ⟨wr.heap.size, 0, none⟩) 2 2] (wr.alloc (.cells #[.slice A2 m c2, .slice A3 (u8s os).length c3] 37)) (Owns (wr.alloc (.cells #[.slice A2 m c2, .slice A3 (u8s os).length c3] 37)) (u8s bs ++ u8s os)) := by
  have hm2 : (u8s bs).length = m := by rw [u8s_length, hm]
  have hb := alloc_ wr (.cells #[.slice A2 m c2, .slice A3 (u8s os).length c3] 37)
  have h := concat_any wr.heap.size wr.heap.size [(A2, c2, u8s bs), (A3, c3, u8s os)] (wr.alloc (.cells #[.slice A2 m c2, .slice A3 (u8s os).length c3] 37))
    (fun k hk => by
      rw [(Blk.new wr _ _).cell]
      match k, hk with
      | 0, _ => show some _ = some (pv (A2, c2, u8s bs)); unfold pv; rw [hm2]; rfl
      | 1, _ => rfl)
    hb.size
    (fun p hp => by
      rcases List.mem_cons.1 hp with rfl | hp
      · show SlV _ _ (.slice A2 (u8s bs).length c2) _; rw [hm2]; exact h1.below hb
      · rw [List.mem_singleton] at hp; subst hp; exact h2.below hb)
    (fun p hp => by
      rcases List.mem_cons.1 hp with rfl | hp
      · exact u8s_one _
      · rw [List.mem_singleton] at hp; subst hp; exact u8s_one _)
    (by simp only [flat]; simp; omega) (by simp)
  simpa [flat] using h

/-- The bytes of runs. -/
def rnsB (l : List Rn) : List UInt8 := l.flatMap rnB
theorem rnsB_len (l : List Rn) : (rnsB l).length = 9 * l.length := by
  unfold rnsB
  induction l with
  | nil => rfl
  | cons a l ih => rw [List.flatMap_cons, List.length_append, ih, rnB_len, List.length_cons]; omega
theorem rnsB_next {l : List Rn} {k : Nat} (h : k < l.length) : rnsB (l.take (k + 1)) = rnsB (l.take k) ++ rnB (rnAt l k) := by
  have e := rnAt_some h
  rw [List.getElem?_eq_getElem h] at e
  injection e with e
  unfold rnsB
  rw [List.take_succ_eq_append_getElem h, List.flatMap_append, e]
  simp
def tabB (l : List Rn) (n : Nat) : List UInt8 := putB (n : Int) 2 ++ rnsB l

set_option maxRecDepth 100000 in
set_option maxHeartbeats 2000000 in
theorem putRuns_any (w : World) (A A2 : Option Addr) (n c m c2 : Nat) (l : List Rn) (bs : List UInt8) (h : RnL w A n c l) (hn : n ≤ 100000) (hm : bs.length = m) (hb : SlV w w.heap.size (.slice A2 m c2) (u8s bs)) (hbl : m ≤ 100000) :
    Calls Try.prog 19 #[.slice A2 m c2, .slice A n c] w (Owns w (u8s bs ++ u8s (tabB l n))) := by
  obtain ⟨i0, hi, hz0, hz1, hz2⟩ := info_parts info5
  have HP := Lib.hid (fun W (n k : Int) => put_any (.slice none 0 0) [] n k W .nil (by simp) (by simp))
  have HR := Lib.hid (fun W (hb : Below w.heap.size w W) i (hi : i < n) => (h.on hb).at_ hi)
  have HL := Lib.hid (show l.length = n from h.1)
  have HB := Lib.hid (fun x => bytesOf_any x)
  have HSB := Lib.hid (show ∀ W, Below w.heap.size w W → SlV W W.heap.size (.slice A2 m c2) (u8s bs) from fun W hbb => (hb.below hbb).more hbb.size)
  clear h hb
  go_enter Try.func19, Try.ntmps19
  go_wp2_with (go_at_call 38; refine (HP.out _ _ _).mono ?_; rintro e w1 ⟨v1, rfl, ho1, hb1⟩; rw [List.nil_append] at ho1; have HO1 := Lib.hid ho1; have HB1 := Lib.hid hb1; clear ho1 hb1)
  go_loopw [5, 13] (fun v i wr => ∃ k : Nat, k ≤ n ∧ i = .int .i64 (k : Int) ∧ wr.ownsRow w.heap.size 5 1 v (u8s (putB (n : Int) 2 ++ rnsB (l.take k))).length (u8s (putB (n : Int) 2 ++ rnsB (l.take k))) ∧ Below w.heap.size w wr) (fun _ i _ => n - (intOf i).toNat)
  case atStart => exact ⟨0, Nat.zero_le _, rfl, by rw [List.take_zero, show rnsB [] = [] from rfl, List.append_nil]; exact HO1.out, HB1.out⟩
  case round =>
    obtain ⟨k, hk, rfl, hown, hbel⟩ := hrel
    have HOW := Lib.hid hown
    have HBE := Lib.hid hbel
    by_cases hlt : k < n
    · have hkI : (k : Int) < (n : Int) := by omega
      obtain ⟨ad, rfl, _, c0, c1, c2, c3, c4⟩ := HR.out wr hbel k hlt
      have HNX := Lib.hid (rnsB_next (l := l) (k := k) (by rw [HL.out]; exact hlt))
      have HLEN := Lib.hid (show (u8s (putB (n : Int) 2 ++ rnsB (l.take k))).length ≤ 2 + 9 * n by rw [u8s_length, List.length_append, putB2, rnsB_len, List.length_take]; omega)
      generalize rnAt l k = x at HNX c0 c1 c2 c3 c4
      have HBX := Lib.hid (HB.out x)
      have HXL := Lib.hid (show (u8s (rnB x)).length = 9 by rw [u8s_length, rnB_len])
      clear hown hbel
      go_wp2_with (first
        | (go_at_call 39; refine (HBX.out _).mono ?_; rintro e w9 ⟨v9, rfl, ho9, hb9⟩; have HO9 := Lib.hid ho9; have HB9 := Lib.hid hb9; clear ho9 hb9)
        | (at_builtin; go_loud (refine wpList_append_slv _ rfl _ _ 37 rfl w.heap.size 5 i0 (.int .u8 0) 1 Try.underlying37 hi hz0 hz1 hz2 rfl _ _ rfl (ownk_keep HOW.out fun g _ hg => (HB9.out.block g (by simp; omega)).trans (Below.heap_alloc _ _ _ hg)) _ v9 (u8s (rnB x)) rfl (SlV.of_own HO9.out) (u8s_one _) (by have := HLEN.out; have := HXL.out; unfold maxLen; omega) (by have := HLEN.out; have := HXL.out; omega) (by have := HBE.out.size; have := HB9.out.size; simp at this; omega) ?_; intro v' w4 h2 h3; have H2 := Lib.hid h2; have H3 := Lib.hid h3; clear h2 h3)))
      go_roundw
      case rel =>
        have hb9 := to_ (to_ HBE.out (alloc_ wr (.cells #[.int .i64 x.1, .int .i64 x.2.1, .int .i64 x.2.2.1, .bool x.2.2.2.1, .int .i64 x.2.2.2.2] 60))) HB9.out
        refine ⟨k + 1, by omega, by go_num, ?_, hb9.grown H3.out hb9.size fun r e => (HOW.out.lt r e).1⟩
        have h9 := H2.out
        rw [← u8s_append, List.append_assoc, ← HNX.out] at h9
        exact h9
      case measure => simp [intOf]; omega
    · obtain rfl : k = n := by omega
      rw [show l.take k = l from List.take_of_length_le (by rw [HL.out]; exact Nat.le_refl _)] at hown
      obtain ⟨A3, c3, rfl⟩ := own_formW hown
      have hlen : (u8s (tabB l k)).length ≤ 1000000 := by unfold tabB; rw [u8s_length, List.length_append, putB2, rnsB_len, HL.out]; omega
      have hcc := two_parts wr A2 A3 m c2 c3 bs (tabB l k) hm (HSB.out wr hbel) (SlV.of_own hown) (by omega) hlen
      have HCC := Lib.hid hcc
      have HLT := Lib.hid (show (u8s (putB (k : Int) 2 ++ rnsB l)).length = (u8s (tabB l k)).length from rfl)
      clear hown hbel hcc hlen
      go_wp2_with (go_at_call 40; go_loud (refine HCC.out.mono ?_; rintro e w9 ⟨v9, rfl, ho9, hb9⟩; have HO9 := Lib.hid ho9; have HB9 := Lib.hid hb9; clear ho9 hb9))
      go_ret
      have hb3 := to_ HBE.out (alloc_ wr (.cells #[.slice A2 m c2, .slice A3 (u8s (tabB l k)).length c3] 37))
      exact ⟨_, rfl, own_base HO9.out hb3.size, to_ hb3 HB9.out⟩
end Go.Proofs.Ytckpbdphilifoaa.By
