/-
  WALKS of layer 29's laws: lists are the same; known.
-/
import Derived.Test.YtbcabomblfehlabUh
import Derived.Test.YtbcabomblfehlabRc
namespace Go.Proofs.Ytbcabomblfehlab.Bo
open Go.RowKit Go.Maps
open Mem Rf
set_option linter.unusedSimpArgs false
set_option linter.unusedVariables false

set_option maxRecDepth 100000 in
set_option maxHeartbeats 2000000 in
theorem ints29_any (w : World) (A B : Option Addr) (n c d : Nat) (l : List Int) (hA : IL w A n c l) (hB : IL w B n d l) (hn : n ≤ 1000) :
    Calls Try.prog 8 #[.slice A n c, .slice B n d] w fun e w' => e = .returned (.bool true) ∧ Below w.heap.size w w' := by
  have HA := Lib.hid (fun W (hb : Below w.heap.size w W) i (hi : i < n) => (hA.on hb).at_ hi)
  have HB := Lib.hid (fun W (hb : Below w.heap.size w W) i (hi : i < n) => (hB.on hb).at_ hi)
  clear hA hB
  go_enter Try.func8, Try.ntmps8
  go_wp2_with fail
  go_loopw [5] (fun i wr => ∃ k : Nat, k ≤ n ∧ i = .int .i64 (k : Int) ∧ Below w.heap.size w wr) (fun i _ => n - (intOf i).toNat)
  case atStart => exact ⟨0, Nat.zero_le _, rfl, Below.refl _ _⟩
  case round =>
    obtain ⟨k, hk, rfl, hbel⟩ := hrel
    by_cases hlt : k < n
    · have hI : (k : Int) < (n : Int) := by omega
      have hk0 : (0 : Int) ≤ (k : Int) := by omega
      obtain ⟨ad, rfl, h1, y1⟩ := HA.out wr hbel k hlt
      obtain ⟨ae, rfl, h2, y2⟩ := HB.out wr hbel k hlt
      obtain ⟨b, hb⟩ : ∃ b, l.getD k 0 = b := ⟨_, rfl⟩
      rw [hb] at y1 y2
      have HBE := Lib.hid hbel
      clear hb hbel
      go_wp2_with fail
      go_quiet (fail)
      go_wp2_with fail
      go_roundw
      case rel => exact ⟨k + 1, by omega, by go_num, below_drewN HBE.out _⟩
      case measure => simp [intOf]; omega
    · obtain rfl : k = n := by omega
      go_wp2_with fail
      go_ret
      exact ⟨rfl, hbel⟩

theorem bl_lit {W : World} {b : Nat} {l : List Bool} {cs : Array Value} (h : Blk W b 4 cs) (hc : cs = (l.flatMap encB).toArray) (hl : l.length ≤ maxLen) : BL W (some ⟨b, 0, none⟩) l.length l.length l := wd_blk h encB_len hc hl
theorem il_lit {W : World} {b : Nat} {l : List Int} {cs : Array Value} (h : Blk W b 3 cs) (hc : cs = (l.flatMap encI).toArray) (hl : l.length ≤ maxLen) : IL W (some ⟨b, 0, none⟩) l.length l.length l := wd_blk h encI_len hc hl
theorem two_kinds (N a : Nat) (h : a < 4) : (gfAt (twoP N).fs a).F.kinds.2.1 ≤ 1000 ∧ (gfAt (twoP N).fs a).F.code.2.1 ≤ 1000 := by
  have : a = 0 ∨ a = 1 ∨ a = 2 ∨ a = 3 := by omega
  rcases this with rfl | rfl | rfl | rfl <;> (unfold twoP gfAt; simp)

/-- Two's program with data. -/
def twoD (N a b : Nat) : Pgm := { twoP N with dA := some ⟨b, 0, none⟩, dn := 2, dc := 2, ds := [⟨0, 0, ⟨#[]⟩, ⟨0, (some ⟨a, 0, none⟩, 2, 2), (none, 0, 0)⟩, (none, 0, 0), []⟩, ⟨0, 0, ⟨#[]⟩, ⟨0, (none, 0, 0), (none, 0, 0)⟩, (none, 0, 0), []⟩] }
def planK (a b : Nat) : Pn := ⟨some ⟨a, 0, none⟩, 4, 4, [true, true, false, true], some ⟨b, 0, none⟩, 4, 4, [1, 0, 3, 0]⟩
theorem twoD_fns (N a b c d : Nat) : fnsL (twoD N a b) (planK c d) = [⟨0, 0, 2, 4, 8, 2⟩, ⟨0, 1, 8, 9, 10, 10⟩, ⟨0, 3, 10, 11, 13, 0⟩] := by kernel_rfl
theorem twoD_starts (N a b c d : Nat) : startsL (twoD N a b) (planK c d) = [2, 8, -1, 10] := by kernel_rfl
theorem twoD_code (N a b c d : Nat) : codeV (twoD N a b) (planK c d) = 13 := by kernel_rfl
theorem twoD_addrs (N a b : Nat) : addrsL (twoD N a b) = [0, 3] := by kernel_rfl
theorem twoD_words (N a b : Nat) : wordsV (twoD N a b) = 4 := by kernel_rfl

theorem known_mem (w1 : World) (N : Nat) (hR : PgR w1 (twoP N)) (W : World) (hW : ((((((w1.alloc (.cells #[.slice (some ⟨N + 16, 0, none⟩) 4 4, .slice (some ⟨w1.heap.size + 1 + 1, 0, none⟩) 2 2, .int .i64 0] 30)).alloc (.cells #[.int .i64 1, .int .i64 2] 2)).alloc (.cells #[.int .i64 0, .int .i64 0, .string ⟨#[]⟩, .int .i64 0, .slice (some ⟨w1.heap.size + 1, 0, none⟩) 2 2, .slice none 0 0, .slice none 0 0, .int .i64 0, .int .i64 0, .string ⟨#[]⟩, .int .i64 0, .slice none 0 0, .slice none 0 0, .slice none 0 0] 51)).alloc (.cells #[.bool true, .bool true, .bool false, .bool true] 4)).alloc (.cells #[.int .i64 1, .int .i64 0, .int .i64 3, .int .i64 0] 3)).alloc (.cells #[.slice (some ⟨w1.heap.size + 1 + 1 + 1, 0, none⟩) 4 4, .slice (some ⟨w1.heap.size + 1 + 1 + 1 + 1, 0, none⟩) 4 4] 26)) = W) :
    RdF W W.heap.size (twoD N (w1.heap.size + 1) (w1.heap.size + 1 + 1)) (planK (w1.heap.size + 1 + 1 + 1) (w1.heap.size + 1 + 1 + 1 + 1)) ∧ RdD W W.heap.size (twoD N (w1.heap.size + 1) (w1.heap.size + 1 + 1)) ∧ Below w1.heap.size w1 W ∧ Blk W w1.heap.size 30 #[.slice (some ⟨N + 16, 0, none⟩) 4 4, .slice (some ⟨w1.heap.size + 1 + 1, 0, none⟩) 2 2, .int .i64 0] ∧ Blk W (w1.heap.size + 1 + 1 + 1 + 1 + 1) 26 #[.slice (some ⟨w1.heap.size + 1 + 1 + 1, 0, none⟩) 4 4, .slice (some ⟨w1.heap.size + 1 + 1 + 1 + 1, 0, none⟩) 4 4] := by
  have hall : Below w1.heap.size w1 W ∧ Blk W w1.heap.size 30 #[.slice (some ⟨N + 16, 0, none⟩) 4 4, .slice (some ⟨w1.heap.size + 1 + 1, 0, none⟩) 2 2, .int .i64 0] ∧ Blk W (w1.heap.size + 1 + 1) 51 #[.int .i64 0, .int .i64 0, .string ⟨#[]⟩, .int .i64 0, .slice (some ⟨w1.heap.size + 1, 0, none⟩) 2 2, .slice none 0 0, .slice none 0 0, .int .i64 0, .int .i64 0, .string ⟨#[]⟩, .int .i64 0, .slice none 0 0, .slice none 0 0, .slice none 0 0] ∧ Blk W (w1.heap.size + 1 + 1 + 1) 4 #[.bool true, .bool true, .bool false, .bool true] ∧ Blk W (w1.heap.size + 1 + 1 + 1 + 1) 3 #[.int .i64 1, .int .i64 0, .int .i64 3, .int .i64 0] ∧ Blk W (w1.heap.size + 1 + 1 + 1 + 1 + 1) 26 #[.slice (some ⟨w1.heap.size + 1 + 1 + 1, 0, none⟩) 4 4, .slice (some ⟨w1.heap.size + 1 + 1 + 1 + 1, 0, none⟩) 4 4] := by
    rw [← hW]
    refine ⟨?_, ?_, ?_, ?_, ?_, ?_⟩
    all_goals (repeat' (first | exact Below.refl _ _ | exact By.Blk.at_ _ _ (by (try simp only [World.size_alloc]); (first | done | omega)) | refine Blk.alloc ?_ _ | refine Below.alloc ?_ (by (try simp only [World.size_alloc]); (first | done | omega)) _))
  obtain ⟨hbel, b0, b2, b3, b4, b5⟩ := hall
  refine ⟨⟨((hR.fr.below hbel).more hbel.size), bl_lit (l := [true, true, false, true]) b3 rfl (by unfold maxLen; simp), il_lit (l := [1, 0, 3, 0]) b4 rfl (by unfold maxLen; simp), by unfold twoD twoP; simp, fun a ha => (two_kinds N a ha).2⟩, ⟨wd_blk (enc := encGd) (l := (twoD N (w1.heap.size + 1) (w1.heap.size + 1 + 1)).ds) b2 encGd_len rfl (by unfold twoD maxLen; simp), by unfold twoD; simp, fun a ha => ?_⟩, hbel, b0, b5⟩
  have ha : a < 2 := ha
  have : a = 0 ∨ a = 1 := by omega
  rcases this with rfl | rfl <;> (unfold twoD gdAt; simp)

set_option maxRecDepth 100000 in
set_option maxHeartbeats 8000000 in
theorem known29_any (w : World) : Calls Try.prog 7 #[] w fun e w' => e = .returned (.bool true) ∧ Below w.heap.size w w' := by
  have HTWO := Lib.hid (two25_any w)
  obtain ⟨N, hN⟩ : ∃ N, w.heap.size = N := ⟨_, rfl⟩
  have HN := Lib.hid hN
  rw [hN] at HTWO ⊢
  clear hN
  have HV := Lib.hid (show pgV (twoP N) = .agg #[.slice (some ⟨N + 16, 0, none⟩) 4 4, .slice none 0 0, .int .i64 0] from rfl)
  rw [HV.out] at HTWO
  have HKM := Lib.hid (fun w1 => known_mem w1 N)
  have HFN := Lib.hid (fun W a b c d (h : RdF W W.heap.size (twoD N a b) (planK c d)) => fns_any W _ _ h (fun i hi => (two_kinds N i hi).1))
  have HST := Lib.hid (fun W a b c d (h : RdF W W.heap.size (twoD N a b) (planK c d)) => starts_any W _ _ h)
  have HCO := Lib.hid (fun W a b c d (h : RdF W W.heap.size (twoD N a b) (planK c d)) => code_any W _ _ h)
  have HAD := Lib.hid (fun W a b (h : RdD W W.heap.size (twoD N a b)) => addrs_any W _ h)
  have HWO := Lib.hid (fun W a b (h : RdD W W.heap.size (twoD N a b)) => words_any W _ h)
  unfold pgV pnV at HFN HST HCO
  unfold pgV at HAD HWO
  simp only [twoD_fns] at HFN
  simp only [twoD_starts] at HST
  simp only [twoD_code] at HCO
  simp only [twoD_addrs] at HAD
  simp only [twoD_words] at HWO
  simp only [twoD, twoP, planK, List.length_cons, List.length_nil, Nat.zero_add, Nat.reduceAdd] at HFN HST HCO HAD HWO
  go_enter Try.func7, Try.ntmps7
  go_wp2_with (go_at_call 23; refine HTWO.out.mono ?_; rintro e w1 ⟨rfl, hr1, hb1⟩; have HR1 := Lib.hid hr1; have HB1 := Lib.hid hb1; clear hr1 hb1; go_wp2_with (go_at_call 18; obtain ⟨W5, hW5⟩ : ∃ x, ((((((w1.alloc (.cells #[.slice (some ⟨N + 16, 0, none⟩) 4 4, .slice (some ⟨w1.heap.size + 1 + 1, 0, none⟩) 2 2, .int .i64 0] 30)).alloc (.cells #[.int .i64 1, .int .i64 2] 2)).alloc (.cells #[.int .i64 0, .int .i64 0, .string ⟨#[]⟩, .int .i64 0, .slice (some ⟨w1.heap.size + 1, 0, none⟩) 2 2, .slice none 0 0, .slice none 0 0, .int .i64 0, .int .i64 0, .string ⟨#[]⟩, .int .i64 0, .slice none 0 0, .slice none 0 0, .slice none 0 0] 51)).alloc (.cells #[.bool true, .bool true, .bool false, .bool true] 4)).alloc (.cells #[.int .i64 1, .int .i64 0, .int .i64 3, .int .i64 0] 3)).alloc (.cells #[.slice (some ⟨w1.heap.size + 1 + 1 + 1, 0, none⟩) 4 4, .slice (some ⟨w1.heap.size + 1 + 1 + 1 + 1, 0, none⟩) 4 4] 26)) = x := ⟨_, rfl⟩; rw [hW5]; obtain ⟨hrf, hrd, hb5, bP, bp⟩ := HKM.out w1 HR1.out W5 hW5; have HRF := Lib.hid hrf; have HRD := Lib.hid hrd; have HB5 := Lib.hid hb5; have HBP := Lib.hid bP; have HBp := Lib.hid bp; clear hrf hrd hb5 bP bp hW5; have HX := Lib.hid (show ∀ W, Below W5.heap.size W5 W → W.cell? ⟨w1.heap.size, 0, none⟩ = some (.slice (some ⟨N + 16, 0, none⟩) 4 4) ∧ W.cell? ⟨w1.heap.size, 1, none⟩ = some (.slice (some ⟨w1.heap.size + 1 + 1, 0, none⟩) 2 2) ∧ W.cell? ⟨w1.heap.size, 2, none⟩ = some (.int .i64 0) ∧ W.cell? ⟨w1.heap.size + 1 + 1 + 1 + 1 + 1, 0, none⟩ = some (.slice (some ⟨w1.heap.size + 1 + 1 + 1, 0, none⟩) 4 4) ∧ W.cell? ⟨w1.heap.size + 1 + 1 + 1 + 1 + 1, 1, none⟩ = some (.slice (some ⟨w1.heap.size + 1 + 1 + 1 + 1, 0, none⟩) 4 4) from fun W hb => ⟨(HBP.out.below hb HBP.out.lt).cell 0, (HBP.out.below hb HBP.out.lt).cell 1, (HBP.out.below hb HBP.out.lt).cell 2, (HBp.out.below hb HBp.out.lt).cell 0, (HBp.out.below hb HBp.out.lt).cell 1⟩); have HRF9 := Lib.hid (fun W (hb : Below W5.heap.size W5 W) => (HRF.out.below hb).more hb.size); have HRD9 := Lib.hid (fun W (hb : Below W5.heap.size W5 W) => (RdD.mk ((HRD.out.below hb).dr.more hb.size) HRD.out.dn HRD.out.wd : RdD W W.heap.size (twoD N (w1.heap.size + 1) (w1.heap.size + 1 + 1)))); refine (HFN.out W5 _ _ _ _ HRF.out).mono ?_; rintro e w6 ⟨A6, c6, rfl, hfl, hb6⟩; have HB6 := Lib.hid hb6; obtain ⟨x0, x1, x2, x3, x4⟩ := HX.out w6 HB6.out; obtain ⟨ad, a0, a1, a2, a3, a4, a5, rfl, h1, y0, y1, y2, y3, y4, y5⟩ := fl_at hfl (show 1 < 3 by omega); simp only [List.getElem?_cons_succ, List.getElem?_cons_zero, Option.some.injEq, F6.mk.injEq] at h1; obtain ⟨rfl, rfl, rfl, rfl, rfl, rfl⟩ := h1; have hadd : ad.add (1 * 6) = ⟨ad.block, ad.off + 6, none⟩ := (by unfold Addr.add; simp); rw [hadd] at y0 y1 y2 y3 y4 y5; dsimp only at y1 y2 y3 y4 y5; clear hfl hb6 hadd; go_wp2_with (go_at_call 9; refine (HST.out w6 _ _ _ _ (HRF9.out w6 HB6.out)).mono ?_; rintro e w7 ⟨A7, c7, rfl, hil7, hb7⟩; have HB7 := Lib.hid (to_ HB6.out hb7); have HI7 := Lib.hid hil7; clear hil7 hb7 x0 x1 x2 x3 x4 y0 y1 y2 y3 y4 y5; obtain ⟨W8, hW8⟩ : ∃ x, w7.alloc (.cells #[.int .i64 2, .int .i64 8, .int .i64 (-1), .int .i64 10] 3) = x := ⟨_, rfl⟩; have HW8 := Lib.hid (show Below w7.heap.size w7 W8 from by rw [← hW8]; exact alloc_ _ _); have HL8 := Lib.hid (show Blk W8 w7.heap.size 3 #[.int .i64 2, .int .i64 8, .int .i64 (-1), .int .i64 10] from by rw [← hW8]; exact Blk.new _ _ _); go_wp2_with (go_at_call 8; refine (ints29_any W8 A7 (some ⟨w7.heap.size, 0, none⟩) 4 c7 4 [2, 8, -1, 10] (HI7.out.on HW8.out) (il_lit HL8.out rfl (by unfold maxLen; simp)) (by omega)).mono ?_; rintro e w9 ⟨rfl, hb9⟩; have HB9 := Lib.hid (to_ HB7.out (to_ HW8.out hb9)); clear hb9 hW8; obtain ⟨x0, x1, x2, x3, x4⟩ := HX.out w9 HB9.out; go_wp2_with (go_at_call 11; refine (HCO.out w9 _ _ _ _ (HRF9.out w9 HB9.out)).mono ?_; rintro e w10 ⟨rfl, hb10⟩; have HB10 := Lib.hid (to_ HB9.out hb10); clear hb10 x0 x1 x2 x3 x4; obtain ⟨x0, x1, x2, x3, x4⟩ := HX.out w10 HB10.out; go_wp2_with (go_at_call 13; refine (HAD.out w10 _ _ (HRD9.out w10 HB10.out)).mono ?_; rintro e w11 ⟨A11, c11, rfl, hil11, hb11⟩; have HB11 := Lib.hid (to_ HB10.out hb11); have HI11 := Lib.hid hil11; clear hil11 hb11 x0 x1 x2 x3 x4; obtain ⟨W12, hW12⟩ : ∃ x, w11.alloc (.cells #[.int .i64 0, .int .i64 3] 3) = x := ⟨_, rfl⟩; have HW12 := Lib.hid (show Below w11.heap.size w11 W12 from by rw [← hW12]; exact alloc_ _ _); have HL12 := Lib.hid (show Blk W12 w11.heap.size 3 #[.int .i64 0, .int .i64 3] from by rw [← hW12]; exact Blk.new _ _ _); go_wp2_with (go_at_call 8; refine (ints29_any W12 A11 (some ⟨w11.heap.size, 0, none⟩) 2 c11 2 [0, 3] (HI11.out.on HW12.out) (il_lit HL12.out rfl (by unfold maxLen; simp)) (by omega)).mono ?_; rintro e w13 ⟨rfl, hb13⟩; have HB13 := Lib.hid (to_ HB11.out (to_ HW12.out hb13)); clear hb13 hW12; obtain ⟨x0, x1, x2, x3, x4⟩ := HX.out w13 HB13.out; go_wp2_with (go_at_call 15; refine (HWO.out w13 _ _ (HRD9.out w13 HB13.out)).mono ?_; rintro e w14 ⟨rfl, hb14⟩; have HB14 := Lib.hid (to_ HB13.out hb14); clear hb14 x0 x1 x2 x3 x4))))))))
  go_ret
  exact ⟨rfl, by rw [← HN.out]; exact to_ (by rw [HN.out]; exact HB1.out) (to_ HB5.out HB14.out)⟩
end Go.Proofs.Ytbcabomblfehlab.Bo
