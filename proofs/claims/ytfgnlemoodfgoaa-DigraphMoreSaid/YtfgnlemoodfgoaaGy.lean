/-
  WALK: from more places no less is reached, and nothing else than from each.
-/
import Derived.Test.YtfgnlemoodfgoaaGx
namespace Go.Proofs.Ytfgnlemoodfgoaa.By
open Go.RowKit
open Mem Gm Rf

theorem reach_more (g : List (List Int)) (fs : List Int) (m : Int) (v : Nat) : reach g (fs ++ [m]) v = (reach g fs v || reach g [m] v) := by
  rw [Bool.eq_iff_iff, Bool.or_eq_true, reach_iff, reach_iff, reach_iff]
  constructor
  · rintro ⟨t, h⟩
    have key : ∀ l, Walk g (fun a => (a : Int) ∈ fs ++ [m]) l → Walk g (fun a => (a : Int) ∈ fs) l ∨ Walk g (fun a => (a : Int) ∈ [m]) l := by
      intro l hl
      induction hl with
      | one a ha hS =>
        rcases List.mem_append.1 hS with h | h
        · exact .inl (.one a ha h)
        · exact .inr (.one a ha h)
      | on u v t _ he ih =>
        rcases ih with ih | ih
        · exact .inl (.on u v t ih he)
        · exact .inr (.on u v t ih he)
    rcases key _ h with h | h
    · exact .inl ⟨t, h⟩
    · exact .inr ⟨t, h⟩
  · rintro (⟨t, h⟩ | ⟨t, h⟩)
    · exact ⟨t, h.mono fun a ha => List.mem_append.2 (.inl ha)⟩
    · exact ⟨t, h.mono fun a ha => List.mem_append.2 (.inr ha)⟩

theorem BW.at_ {w : World} {A : Option Addr} {n c : Nat} {g : List (List Int)} {fs : List Int} (hN : g.length = n) (h : BW w (.slice A n c) g fs) {i : Nat} (hi : i < n) :
    ∃ ad, A = some ad ∧ ad.block < w.heap.size ∧ w.cell? (ad.add i) = some (.bool (reach g fs i)) := by
  rcases SlV.inv h with ⟨_, e, _⟩ | ⟨ad, e, _, _, _, hc⟩
  · omega
  · have := hc i (.bool (reach g fs i)) (by simp [reachV, hN, hi])
    exact ⟨ad, e, this.1, this.2⟩

theorem ints_one (l : List Int) : ∀ y ∈ ints l, y.oneCell' = true := fun y hy => by
  obtain ⟨x, _, rfl⟩ := List.mem_map.1 hy; rfl
theorem ints_app (l k : List Int) : ints l ++ ints k = ints (l ++ k) := by simp [ints]

set_option linter.unusedSimpArgs false in
set_option maxHeartbeats 4000000 in
set_option maxRecDepth 100000 in
theorem more_any (w : World) (A A2 : Option Addr) (c c2 N M : Nat) (g : List (List Int)) (fs : List Int) (m : Int) (hN : g.length = N) (hM : fs.length = M) (h : GW w (.slice A N c) g) (hF : IW w (.slice A2 M c2) fs) :
    Calls Try.prog 5 #[.slice A N c, .slice A2 M c2, .int .i64 m] w (TAns w) := by
  obtain ⟨i0, hi, hz0, hz1, hz2⟩ := info_parts infoI
  have HN := Lib.hid hN
  have HM := Lib.hid hM
  have HG := Lib.hid h
  have HF := Lib.hid hF
  clear hN hM h hF
  go_enter Try.func5, Try.ntmps5
  go_wp2_with fail
  refine (few_w _ _ _ _ g HN.out HG.out).mono ?_
  rintro e w' ⟨bl, rfl, hbl, rfl⟩
  cases bl with
  | false =>
    clear hbl
    go_wp2_with fail
    refine (known_any _).mono ?_
    rintro e w1 ⟨rfl, b1⟩
    have HB1 := Lib.hid b1
    clear b1
    go_wp2_with fail
    go_ret
    exact ⟨rfl, HB1.out⟩
  | true =>
    have HS := Lib.hid (hbl rfl)
    clear hbl
    by_cases hm : 30 < M
    · have hd : decide ((30 : Int) < (M : Int)) = true := by simp; omega
      clear hm
      go_wp2_with fail
      refine (known_any _).mono ?_
      rintro e w1 ⟨rfl, b1⟩
      have HB1 := Lib.hid b1
      clear b1
      go_wp2_with fail
      go_ret
      exact ⟨rfl, HB1.out⟩
    · have hd : decide ((30 : Int) < (M : Int)) = false := by simp; omega
      have HM30 := Lib.hid (show M + 1 ≤ 31 by omega)
      have HN24 := Lib.hid (show N ≤ 24 from HN.out ▸ HS.out.1)
      clear hm
      go_wp2_with fail
      refine (reach_w _ _ _ _ _ N M g fs HN.out HM.out HG.out HF.out HS.out (Nat.le_of_succ_le HM30.out)).mono ?_
      rintro e w1 ⟨A1, rfl, h1, b1⟩
      refine have HV1 := Lib.hid h1; have HG1 := Lib.hid (HG.out.on b1); have HF1 := Lib.hid (HF.out.on b1); have HB1 := Lib.hid b1; ?_
      clear h1 b1 HG HF
      go_wp2_with fail
      refine (reach_w _ _ _ _ _ N 1 g [m] HN.out rfl (HG1.out.on (alloc_ _ _)) (IW.lit [m] 1 (Blk.new w1 3 _) rfl rfl (by decide)) HS.out (by decide)).mono ?_
      rintro e w2 ⟨A3, rfl, h2, b2⟩
      refine have HV2 := Lib.hid h2; have HV1' := Lib.hid ((HV1.out.on (alloc_ _ _)).on b2); have HG2 := Lib.hid ((HG1.out.on (alloc_ _ _)).on b2); have HF2 := Lib.hid ((HF1.out.on (alloc_ _ _)).on b2); have HB2 := Lib.hid (to_ (to_ HB1.out (alloc_ _ _)) b2); ?_
      clear h2 b2 HV1 HG1 HF1 HB1
      have d2 : ([] : List Value).length + (ints fs).length ≤ maxLen := by have := HM30.out; simp [ints, HM.out]; unfold maxLen; omega
      have d3 : (([] : List Value).length + (ints fs).length) * 8 ≤ 140737488355328 := by have := HM30.out; simp [ints, HM.out]; omega
      have d4 : (ints fs).length + (ints [m]).length ≤ maxLen := by have := HM30.out; simp [ints, HM.out]; unfold maxLen; omega
      have d5 : ((ints fs).length + (ints [m]).length) * 8 ≤ 140737488355328 := by have := HM30.out; simp [ints, HM.out]; omega
      have D2 := Lib.hid d2
      have D3 := Lib.hid d3
      have D4 := Lib.hid d4
      have D5 := Lib.hid d5
      have HON := Lib.hid (World.ownsRow_nil w2 w2.heap.size 3 1)
      have HLEN := Lib.hid (show (ints fs ++ ints [m]).length = M + 1 by simp [ints, HM.out])
      clear d2 d3 d4 d5 hd
      go_wp2_with (at_builtin; first | (have HON' := HON; clear HON; refine wpList_append_slv _ rfl (.tmp 28) (.tmp 29) _ rfl w2.heap.size 3 i0 (.int .i64 0) 8 Try.underlying23 hi hz0 hz1 hz2 rfl (.slice none 0 0) [] rfl HON'.out w2.heap.size _ (ints fs) rfl HF2.out (ints_one _) D2.out D3.out (Nat.le_refl _) ?_; intro v3 w3 hown3 hg3; rw [List.nil_append] at hown3; have HO3 := Lib.hid hown3; have HG3 := Lib.hid hg3; clear hown3 hg3) | (have HB3 := Lib.hid ((Below.refl w2.heap.size w2).grown HG3.out (Nat.le_refl _) (fun k e => (by cases e))); have HSZ := Lib.hid (show w2.heap.size ≤ (w3.alloc (.cells #[.int .i64 m] 3)).heap.size by have := HB3.out.size; rw [size_alloc]; omega); have HSRC := Lib.hid (show SlV (w3.alloc (.cells #[.int .i64 m] 3)) (w3.heap.size + 1) (.slice (some ⟨w3.heap.size, 0, none⟩) 1 1) (ints [m]) by have h := IW.lit (w := w3.alloc (.cells #[.int .i64 m] 3)) [m] 1 (Blk.new w3 3 _) rfl rfl (by decide); unfold IW at h; rw [size_alloc] at h; exact h); have HO3' := Lib.hid (own_keep (w' := w3.alloc (.cells #[.int .i64 m] 3)) HO3.out fun k _ hk _ => Below.heap_alloc _ _ _ hk); refine wpList_append_slv _ rfl (.tmp 31) (.tmp 33) _ rfl w2.heap.size 3 i0 (.int .i64 0) 8 Try.underlying23 hi hz0 hz1 hz2 rfl v3 (ints fs) rfl HO3'.out (w3.heap.size + 1) _ (ints [m]) rfl HSRC.out (ints_one _) D4.out D5.out HSZ.out ?_; intro v4 w4 hown4 hg4; rw [HLEN.out, ints_app] at hown4; obtain ⟨g4, c4, rfl⟩ := ownsRow_succ hown4; have HO4 := Lib.hid hown4; have HG4 := Lib.hid hg4; clear hown4 hg4))
      have HB4 := Lib.hid ((HB3.out.alloc HB3.out.size (.cells #[.int .i64 m] 3)).grown HG4.out HSZ.out (fun r e => (HO3.out.lt r e).1))
      refine have HI4 := Lib.hid (show IW w4 (.slice (some ⟨g4, 0, none⟩) (M + 1) c4) (fs ++ [m]) from by
        have h1 := SlV.of_own HO4.out
        exact h1); ?_
      refine have HV2' := Lib.hid (HV2.out.on HB4.out); have HV1 := Lib.hid (HV1'.out.on HB4.out); have HG4 := Lib.hid (HG2.out.on HB4.out); have HB4' := Lib.hid (to_ HB2.out HB4.out); ?_
      clear HV2 HV1' HG2 HF2 HB2 D2 D3 D4 D5 HLEN HB3 HSZ HSRC HO3' HO3 HG3 HON' HB4
      refine (reach_w _ _ _ _ _ N (M + 1) g (fs ++ [m]) HN.out (by rw [List.length_append, HM.out]; rfl) HG4.out HI4.out HS.out HM30.out).mono ?_
      rintro e w5 ⟨A5, rfl, h5, b5⟩
      refine have HR := Lib.hid (show ∀ k, k < N → ∃ x y a1 a2 a3, A1 = some a1 ∧ A3 = some a2 ∧ A5 = some a3 ∧ w5.cell? (a1.add k) = some (.bool x) ∧ w5.cell? (a2.add k) = some (.bool y) ∧ w5.cell? (a3.add k) = some (.bool (x || y)) from fun k hk => by
        obtain ⟨a1, e1, _, c1⟩ := (HV1.out.on b5).at_ HN.out hk
        obtain ⟨a2, e2, _, c2⟩ := (HV2'.out.on b5).at_ HN.out hk
        obtain ⟨a3, e3, _, c3⟩ := h5.at_ HN.out hk
        rw [reach_more] at c3
        exact ⟨_, _, a1, a2, a3, e1, e2, e3, c1, c2, c3⟩); have HB5 := Lib.hid (to_ HB4'.out b5); ?_
      clear h5 b5 HV1 HV2' HG4 HB4' HI4 HO4
      go_wp2_with fail
      go_loopw [11] (fun i wr => ∃ k q : Nat, k ≤ N ∧ i = .int .i64 k ∧ wr = w5.drewN q) (fun i _ => N - (intOf i).toNat)
      case atStart => exact ⟨0, 0, by omega, rfl, rfl⟩
      case round =>
        obtain ⟨k, q, hk, rfl, rfl⟩ := hrel
        by_cases hlt : k < N
        · obtain ⟨x, y, a1, a2, a3, rfl, rfl, rfl, cx, cy, cz⟩ := HR.out k hlt
          have hk0 : (0 : Int) ≤ (k : Int) := by omega
          have hkn : (k : Int) < (N : Int) := by omega
          have hN24 := HN24.out
          cases x <;> cases y
          all_goals
            simp only [Bool.or_false, Bool.or_true, Bool.false_or, Bool.true_or] at cz
            go_wp2_with fail
            go_quiet (fail)
            go_wp2_with fail
            go_roundw
            case rel => exact ⟨k + 1, q + nq, by omega, by go_num, by first | rfl | exact World.drewN_drewN ..⟩
            case measure => simp [intOf]; omega
        · go_wp2_with fail
          refine (known_any _).mono ?_
          rintro e w6 ⟨rfl, b6⟩
          have HB6 := Lib.hid (to_ (below_drewN HB5.out q) b6)
          clear b6
          go_wp2_with fail
          go_ret
          exact ⟨rfl, HB6.out⟩
end Go.Proofs.Ytfgnlemoodfgoaa.By
