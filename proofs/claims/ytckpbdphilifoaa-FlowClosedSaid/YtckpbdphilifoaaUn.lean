/-
  WALK: behind what is live all is live; behind what comes after all does; with more marks nothing less; what comes after is live, if the marks are.
-/
import Derived.Test.YtckpbdphilifoaaUk
namespace Go.Proofs.Ytckpbdphilifoaa.By
open Go.RowKit
open Mem Gm Rf

theorem gph_E {n : Nat} {O T : Nat → Int} {a b : Nat} : E (gph n O T) a b = true ↔ a < n ∧ b < n ∧ (b : Int) ∈ nxt n O T (a : Int) := by
  rw [E_iff, gph_length]
  constructor
  · rintro ⟨h1, h2, h3⟩
    have h4 := gph_row O T h1
    unfold rowOf at h4
    rw [h4] at h3
    exact ⟨h1, h2, h3⟩
  · rintro ⟨h1, h2, h3⟩
    have h4 := gph_row O T h1
    unfold rowOf at h4
    refine ⟨h1, h2, ?_⟩
    rw [h4]; exact h3

theorem reach_on {n : Nat} {O T : Nat → Int} {fs : List Int} {a b : Nat} (h : reach (gph n O T) fs a = true) (hb : b < n) (hx : (b : Int) ∈ nxt n O T (a : Int)) : reach (gph n O T) fs b = true := by
  obtain ⟨t, hw⟩ := (reach_iff _ _ _).1 h
  have ha := hw.head
  rw [gph_length] at ha
  exact (reach_iff _ _ _).2 ⟨a :: t, .on a b t hw (gph_E.2 ⟨ha, hb, hx⟩)⟩

theorem reach_more {g : List (List Int)} {fs fs' : List Int} {a : Nat} (h : reach g fs a = true) (hs : ∀ x, x ∈ fs → x ∈ fs') : reach g fs' a = true := by
  obtain ⟨t, hw⟩ := (reach_iff _ _ _).1 h
  exact (reach_iff _ _ _).2 ⟨t, hw.mono fun a ha => hs _ ha⟩

theorem reach_in {n : Nat} {O T : Nat → Int} {fs : List Int} {P : Nat → Prop} (h0 : ∀ v : Nat, v < n → (v : Int) ∈ fs → P v) (h1 : ∀ a b : Nat, P a → b < n → (b : Int) ∈ nxt n O T (a : Int) → P b) {a : Nat} (h : reach (gph n O T) fs a = true) : P a := by
  obtain ⟨t, hw⟩ := (reach_iff _ _ _).1 h
  have key : ∀ l, Walk (gph n O T) (fun a => (a : Int) ∈ fs) l → ∀ v t, l = v :: t → P v := by
    intro l hl
    induction hl with
    | one a ha hS => intro v t e; injection e with e1 e2; subst e1; rw [gph_length] at ha; exact h0 a ha hS
    | on u v t h he ih => intro v' t' e; injection e with e1 e2; subst e1; have h2 := gph_E.1 he; exact h1 u v (ih u t rfl) h2.2.1 h2.2.2
  exact key _ hw a t rfl

theorem reach_start {n : Nat} {O T : Nat → Int} {fs : List Int} {a : Nat} (ha : a < n) (hx : (a : Int) ∈ fs) : reach (gph n O T) fs a = true :=
  (reach_iff _ _ _).2 ⟨[], .one a (by rw [gph_length]; exact ha) hx⟩

/-- All of these marks are places, and live. -/
def fineV (n : Nat) (o : Nat → Bool) (ms : List Int) (k : Nat) : Bool := (ms.take k).all fun x => decide (0 ≤ x) && decide (x < (n : Int)) && o x.toNat

theorem fineV_next {n : Nat} {o : Nat → Bool} {ms : List Int} {k : Nat} (h : k < ms.length) : fineV n o ms (k + 1) = (fineV n o ms k && (decide (0 ≤ el ms k) && decide (el ms k < (n : Int)) && o (el ms k).toNat)) := by
  unfold fineV
  rw [List.take_succ_eq_append_getElem h, List.all_append, el_at h]
  simp

theorem after_live {n : Nat} {O T : Nat → Int} {ms : List Int} (hf : fineV n (reach (gph n O T) [0]) ms ms.length = true) {a : Nat} (h : reach (gph n O T) (behs n O T ms) a = true) : reach (gph n O T) [0] a = true := by
  refine reach_in (P := fun a => reach (gph n O T) [0] a = true) (fun v hv hx => ?_) (fun a b ha hb hx => reach_on ha hb hx) h
  unfold behs at hx
  obtain ⟨m, hm, hx⟩ := List.mem_flatMap.1 hx
  unfold fineV at hf
  rw [List.take_length, List.all_eq_true] at hf
  have h2 := hf m hm
  rw [Bool.and_eq_true, Bool.and_eq_true, decide_eq_true_eq, decide_eq_true_eq] at h2
  refine reach_on h2.2 hv ?_
  rw [Int.toNat_of_nonneg h2.1.1]; exact hx

theorem after_wide {n : Nat} {O T : Nat → Int} {ms : List Int} {x : Int} {a : Nat} (h : reach (gph n O T) (behs n O T ms) a = true) : reach (gph n O T) (behs n O T (ms ++ [x])) a = true :=
  reach_more h fun y hy => by
    unfold behs at hy ⊢
    rw [List.flatMap_append]
    exact List.mem_append.2 (.inl hy)

/-- What is read of marks. -/
theorem BW.at_ {w : World} {A : Option Addr} {n c : Nat} {o : Nat → Bool} (h : BW w (.slice A n c) n o) {i : Nat} (hi : i < n) : ∃ ad, A = some ad ∧ w.cell? (ad.add i) = some (.bool (o i)) := by
  rcases h.inv with ⟨_, e, _⟩ | ⟨ad, e, _, _, _, hc⟩
  · omega
  · exact ⟨ad, e, (hc i _ (by simp [hi])).2⟩
theorem IW.els {w : World} {A : Option Addr} {M c : Nat} {l : List Int} (h : IW w (.slice A M c) l) (hM : l.length = M) : Els w A M l := els_row hM h

set_option maxHeartbeats 8000000 in
set_option maxRecDepth 100000 in
theorem flowClosed_any (w : World) (A A2 : Option Addr) (c c2 n M : Nat) (O T : Nat → Int) (ms : List Int) (i : Int) (hM : ms.length = M) (h : CW w A n c O T) (hm : IW w (.slice A2 M c2) ms) :
    Calls Try.prog 7 #[.slice A n c, .slice A2 M c2, .int .i64 i] w (TAns w) := by
  have HM := Lib.hid hM
  have HG := Lib.hid h
  have HI := Lib.hid hm
  clear hM h hm
  by_cases h1 : 80 < n
  · have e0 : (80 : Int) < (n : Int) := by omega
    clear h1
    go_enter Try.func7, Try.ntmps7
    go_wp2_with fail
    refine (known14_any _).mono ?_
    rintro e w9 ⟨rfl, b9⟩
    have HB99 := Lib.hid (b9)
    clear b9
    go_wp2_with fail
    go_ret
    exact ⟨rfl, HB99.out⟩
  · have e0 : ¬ (80 : Int) < (n : Int) := by omega
    by_cases h2 : 80 < M
    · have e1 : (80 : Int) < (M : Int) := by omega
      clear h1 h2
      go_enter Try.func7, Try.ntmps7
      go_wp2_with fail
      refine (known14_any _).mono ?_
      rintro e w9 ⟨rfl, b9⟩
      have HB99 := Lib.hid (b9)
      clear b9
      go_wp2_with fail
      go_ret
      exact ⟨rfl, HB99.out⟩
    · have e1 : ¬ (80 : Int) < (M : Int) := by omega
      have HN80 := Lib.hid (show n ≤ 80 by omega)
      have HM80 := Lib.hid (show M ≤ 80 by omega)
      obtain ⟨i0, hi, hz0, hz1, hz2⟩ := info_parts infoI
      obtain ⟨ol, hol⟩ : ∃ ol, reach (gph n O T) [0] = ol := ⟨_, rfl⟩
      obtain ⟨oa, hoa⟩ : ∃ oa, reach (gph n O T) (behs n O T ms) = oa := ⟨_, rfl⟩
      obtain ⟨ow, how⟩ : ∃ ow, reach (gph n O T) (behs n O T (ms ++ [i])) = ow := ⟨_, rfl⟩
      have HLON := Lib.hid (show ∀ a b : Nat, ol a = true → b < n → (b : Int) ∈ nxt n O T (a : Int) → ol b = true from fun a b h1 h2 h3 => by rw [← hol] at h1 ⊢; exact reach_on h1 h2 h3)
      have HAON := Lib.hid (show ∀ a b : Nat, oa a = true → b < n → (b : Int) ∈ nxt n O T (a : Int) → oa b = true from fun a b h1 h2 h3 => by rw [← hoa] at h1 ⊢; exact reach_on h1 h2 h3)
      have HAW := Lib.hid (show ∀ a : Nat, oa a = true → ow a = true from fun a h1 => by rw [← hoa] at h1; rw [← how]; exact after_wide h1)
      have HAL := Lib.hid (show fineV n ol ms M = true → ∀ a : Nat, oa a = true → ol a = true from fun hf a h1 => by rw [← hoa] at h1; rw [← hol] at hf ⊢; rw [← HM.out] at hf; exact after_live hf h1)
      have HL0 := Lib.hid (show 0 < n → ol 0 = true from fun h1 => by rw [← hol]; exact reach_start h1 (by simp))
      have HLIV := Lib.hid (fun w (h : CW w A n c O T) => live_w h hol (by have := HN80.out; omega))
      have HAFT := Lib.hid (fun w (h : CW w A n c O T) (hm : IW w (.slice A2 M c2) ms) => after_w h HM.out hm hoa (by have := HN80.out; omega) (by have := HM80.out; omega))
      have HWID := Lib.hid (fun w A3 c3 (h : CW w A n c O T) (hm : IW w (.slice A3 (M + 1) c3) (ms ++ [i])) => after_w h (show (ms ++ [i]).length = M + 1 by simp [HM.out]) hm how (by have := HN80.out; omega) (by have := HM80.out; omega))
      have HNX := Lib.hid (fun w (j : Int) (h : CW w A n c O T) => rnext_w (l := nxt n O T j) (L := (nxt n O T j).length) j h rfl rfl)
      have HNL := Lib.hid (fun (j : Int) => nxt_length n O T j)
      clear h1 h2 hol hoa how
      go_enter Try.func7, Try.ntmps7
      go_wp2_with fail
      refine (HLIV.out _ HG.out).mono ?_
      rintro e w1 ⟨X1, rfl, h1, b1⟩
      have Rl1 := Lib.hid (h1)
      have Rg1 := Lib.hid (HG.out.on b1)
      have Rm1 := Lib.hid (HI.out.on b1)
      have HB1 := Lib.hid (b1)
      clear b1 h1 HG HI
      go_wp2_with fail
      refine (HAFT.out _ Rg1.out Rm1.out).mono ?_
      rintro e w2 ⟨X2, rfl, h2, b2⟩
      have Ra2 := Lib.hid (h2)
      have Rl2 := Lib.hid (Rl1.out.on b2)
      have Rg2 := Lib.hid (Rg1.out.on b2)
      have Rm2 := Lib.hid (Rm1.out.on b2)
      have HB2 := Lib.hid (to_ HB1.out b2)
      clear b2 h2 Rl1 Rg1 Rm1 HB1
      go_wp2_with (at_builtin; first
        | ((refine wpList_append_slv w2 rfl _ _ 50 rfl w2.heap.size 3 i0 (.int .i64 0) 8 Try.underlying50 hi hz0 hz1 hz2 rfl (.slice none 0 0) [] rfl (World.ownsRow_nil _ _ _ _) w2.heap.size (.slice A2 M c2) (ints ms) rfl Rm2.out (ints_one _) (by have := HM80.out; rw [ints_len, HM.out]; unfold maxLen; simp; omega) (by have := HM80.out; rw [ints_len, HM.out]; simp; omega) (Nat.le_refl _) ?_; intro v5 w5 h5 g5; rw [List.nil_append] at h5; have H5 := Lib.hid h5; have G5 := Lib.hid g5; have S5 := Lib.hid (show Below w2.heap.size w2 w5 from (Below.refl _ w2).grown g5 (Nat.le_refl _) (fun r e => by cases e)); clear h5 g5))
        | ((refine wpList_append_slv _ rfl _ _ 50 rfl w2.heap.size 3 i0 (.int .i64 0) 8 Try.underlying50 hi hz0 hz1 hz2 rfl v5 (ints ms) rfl (own_keep H5.out fun g _ hg _ => Below.heap_alloc _ _ _ hg) _ _ (ints [i]) rfl (one_in w5 i) (ints_one _) (by have := HM80.out; rw [ints_len, ints_len, HM.out]; unfold maxLen; simp; omega) (by have := HM80.out; rw [ints_len, ints_len, HM.out]; simp; omega) (Nat.le_trans S5.out.size (alloc_ w5 _).size) ?_; intro v6 w6 h6 g6; rw [ints_app, ints_len, List.length_append, HM.out, List.length_singleton] at h6; obtain ⟨A6, c6, rfl⟩ := own_form h6; have H6 := Lib.hid (show IW w6 (.slice A6 (M + 1) c6) (ms ++ [i]) from SlV.of_own h6); have S6 := Lib.hid (show Below w2.heap.size w2 w6 from (to_ S5.out (alloc_ w5 _)).grown g6 (to_ S5.out (alloc_ w5 _)).size (fun r e => (H5.out.lt r e).1)); clear h6 g6)))
      refine (HWID.out _ _ _ (Rg2.out.on S6.out) H6.out).mono ?_
      rintro e w7 ⟨X7, rfl, h7, b7⟩
      have Rw7 := Lib.hid (h7)
      have Ra7 := Lib.hid ((Ra2.out.on S6.out).on b7)
      have Rl7 := Lib.hid ((Rl2.out.on S6.out).on b7)
      have Rg7 := Lib.hid ((Rg2.out.on S6.out).on b7)
      have Rm7 := Lib.hid ((Rm2.out.on S6.out).on b7)
      have HB7 := Lib.hid (to_ (to_ HB2.out S6.out) b7)
      clear b7 h7 Ra2 Rl2 Rg2 Rm2 HB2
      have hfit : fineV n ol ms 0 = true := rfl
      have HFI := Lib.hid hfit
      have HEM := Lib.hid (Rm7.out.els HM.out)
      clear hfit
      go_wp2_with fail
      clear e0 e1
      go_loop [11, 12] (fun f i => ∃ k : Nat, k ≤ M ∧ f = .bool (fineV n ol ms k) ∧ i = .int .i64 (k : Int)) (fun _ i => M - (intOf i).toNat)
      case atStart => exact ⟨0, Nat.zero_le _, rfl, rfl⟩
      case round =>
        obtain ⟨k, hk, rfl, rfl⟩ := hrel
        by_cases hlt : k < M
        · have hkI : (k : Int) < (M : Int) := by omega
          have hk8 : (k : Int) < 80 := by have := HM80.out; omega
          have hx := fineV_next (n := n) (o := ol) (ms := ms) (k := k) (by rw [HM.out]; exact hlt)
          obtain ⟨ad, rfl, hc⟩ := HEM.out k hlt
          generalize el ms k = x at hx hc
          cases hf : fineV n ol ms k with
          | false =>
            rw [hf, Bool.false_and] at hx
            have HX := Lib.hid hx
            clear hx hf
            go_wp2_with fail
            go_round
            case rel => exact ⟨k + 1, by omega, by rw [HX.out], by go_num⟩
            case measure => simp [intOf]; omega
          | true =>
            rw [hf, Bool.true_and] at hx
            clear hf
            by_cases h0 : 0 ≤ x
            · obtain ⟨y, rfl⟩ : ∃ y : Nat, x = (y : Int) := ⟨x.toNat, by omega⟩
              by_cases h1 : y < n
              · have h1I : (y : Int) < (n : Int) := by omega
                obtain ⟨al, rfl, hl⟩ := Rl7.out.at_ h1
                rw [decide_eq_true h0, decide_eq_true h1I, Int.toNat_natCast, Bool.true_and, Bool.true_and] at hx
                obtain ⟨bl, hbl⟩ : ∃ bl, ol y = bl := ⟨_, rfl⟩
                rw [hbl] at hx hl
                have HX := Lib.hid hx
                clear hx hbl
                go_wp2_with fail
                go_round
                case rel => exact ⟨k + 1, by omega, by rw [HX.out], by go_num⟩
                case measure => simp [intOf]; omega
              · have h1I : ¬ (y : Int) < (n : Int) := by omega
                rw [decide_eq_false h1I, Bool.and_false, Bool.false_and] at hx
                have HX := Lib.hid hx
                clear hx
                go_wp2_with fail
                go_round
                case rel => exact ⟨k + 1, by omega, by rw [HX.out], by go_num⟩
                case measure => simp [intOf]; omega
            · rw [decide_eq_false h0, Bool.false_and, Bool.false_and] at hx
              have HX := Lib.hid hx
              clear hx
              go_wp2_with fail
              go_round
              case rel => exact ⟨k + 1, by omega, by rw [HX.out], by go_num⟩
              case measure => simp [intOf]; omega
        · obtain rfl : k = M := by omega
          obtain ⟨fv, hfv⟩ : ∃ fv, fineV n ol ms k = fv := ⟨_, rfl⟩
          rw [hfv] at HAL ⊢
          clear hfv HEM
          go_wp2_with fail
          go_loopw [13] (fun i wr => ∃ k : Nat, k ≤ n ∧ i = .int .i64 (k : Int) ∧ Below w7.heap.size w7 wr) (fun i _ => n - (intOf i).toNat)
          case atStart => exact ⟨0, Nat.zero_le _, rfl, Below.refl _ _⟩
          case round =>
            obtain ⟨k, hk, rfl, hbel⟩ := hrel
            by_cases hlt : k < n
            · have hkI : (k : Int) < (n : Int) := by omega
              have HKL := Lib.hid hlt
              have HBE := Lib.hid hbel
              have HX := Lib.hid (HNX.out wr (k : Int) (Rg7.out.on hbel))
              have hnl := HNL.out (k : Int)
              clear hbel
              go_wp2_with (go_at_call 28; (refine HX.out.mono ?_; rintro e w9 ⟨X9, c9, rfl, h9, b9⟩; have B9 := Lib.hid (to_ HBE.out b9); have HEL := Lib.hid (h9.els rfl); clear h9 b9))
              have HL9 := Lib.hid (Rl7.out.on B9.out)
              have HA9 := Lib.hid (Ra7.out.on B9.out)
              have HW9 := Lib.hid (Rw7.out.on B9.out)
              obtain ⟨l, hl⟩ : ∃ l, nxt n O T (k : Int) = l := ⟨_, rfl⟩
              have HLN := Lib.hid hl
              rw [hl] at hnl HEL ⊢
              obtain ⟨N9, hN9⟩ : ∃ N9, l.length = N9 := ⟨_, rfl⟩
              have HN9 := Lib.hid hN9
              rw [hN9] at hnl HEL ⊢
              clear hl hN9 HX
              go_loop [15] (fun i => ∃ j : Nat, j ≤ N9 ∧ i = .int .i64 (j : Int)) (fun i => N9 - (intOf i).toNat)
              case atStart => exact ⟨0, Nat.zero_le _, rfl⟩
              case round =>
                obtain ⟨j, hj, rfl⟩ := hrel
                by_cases hjt : j < N9
                · have hjI : (j : Int) < (N9 : Int) := by omega
                  have hj8 : (j : Int) < 80 := by omega
                  obtain ⟨ad, rfl, hc⟩ := HEL.out j hjt
                  obtain ⟨x, hxe⟩ : ∃ x, el l j = x := ⟨_, rfl⟩
                  rw [hxe] at hc
                  have HXE := Lib.hid (show x ∈ l from by rw [← hxe, ← el_at (by rw [HN9.out]; exact hjt)]; exact List.getElem_mem _)
                  clear hxe
                  by_cases h0 : 0 ≤ x
                  · obtain ⟨y, rfl⟩ : ∃ y : Nat, x = (y : Int) := ⟨x.toNat, by omega⟩
                    by_cases h1 : y < n
                    · have h1I : (y : Int) < (n : Int) := by omega
                      have hkI : (k : Int) < (n : Int) := by have := HKL.out; omega
                      have hy : (y : Int) ∈ nxt n O T (k : Int) := by rw [HLN.out]; exact HXE.out
                      have hol : ol k = false ∨ (ol k = true ∧ ol y = true) := by
                        cases h : ol k with
                        | false => exact .inl rfl
                        | true => exact .inr ⟨rfl, HLON.out k y h h1 hy⟩
                      have hoa : oa k = false ∨ (oa k = true ∧ oa y = true) := by
                        cases h : oa k with
                        | false => exact .inl rfl
                        | true => exact .inr ⟨rfl, HAON.out k y h h1 hy⟩
                      obtain ⟨al, rfl, lk⟩ := HL9.out.at_ HKL.out
                      obtain ⟨al2, e2, ly⟩ := HL9.out.at_ h1
                      injection e2 with e2
                      subst e2
                      obtain ⟨aa, rfl, ak⟩ := HA9.out.at_ HKL.out
                      obtain ⟨aa2, e2, ay⟩ := HA9.out.at_ h1
                      injection e2 with e2
                      subst e2
                      clear hy
                      rcases hol with h | ⟨h, h'⟩
                      · rw [h] at lk
                        clear h ly
                        rcases hoa with h | ⟨h, h'⟩
                        · rw [h] at ak
                          clear h ay
                          go_wp2_with fail
                          go_round
                          case rel => exact ⟨j + 1, by omega, by go_num⟩
                          case measure => simp [intOf]; omega
                        · rw [h] at ak
                          rw [h'] at ay
                          clear h h'
                          go_wp2_with fail
                          go_round
                          case rel => exact ⟨j + 1, by omega, by go_num⟩
                          case measure => simp [intOf]; omega
                      · rw [h] at lk
                        rw [h'] at ly
                        clear h h'
                        rcases hoa with h | ⟨h, h'⟩
                        · rw [h] at ak
                          clear h ay
                          go_wp2_with fail
                          go_round
                          case rel => exact ⟨j + 1, by omega, by go_num⟩
                          case measure => simp [intOf]; omega
                        · rw [h] at ak
                          rw [h'] at ay
                          clear h h'
                          go_wp2_with fail
                          go_round
                          case rel => exact ⟨j + 1, by omega, by go_num⟩
                          case measure => simp [intOf]; omega
                    · have h1I : ¬ (y : Int) < (n : Int) := by omega
                      go_wp2_with fail
                      go_round
                      case rel => exact ⟨j + 1, by omega, by go_num⟩
                      case measure => simp [intOf]; omega
                  · go_wp2_with fail
                    go_round
                    case rel => exact ⟨j + 1, by omega, by go_num⟩
                    case measure => simp [intOf]; omega
                · obtain rfl : j = N9 := by omega
                  have hkI : (k : Int) < (n : Int) := by have := HKL.out; omega
                  have hk8 : (k : Int) < 80 := by have := HN80.out; omega
                  obtain ⟨al, rfl, lk⟩ := HL9.out.at_ HKL.out
                  obtain ⟨aa, rfl, ak⟩ := HA9.out.at_ HKL.out
                  obtain ⟨aw, rfl, wk⟩ := HW9.out.at_ HKL.out
                  cases hak : oa k with
                  | false =>
                    rw [hak] at ak
                    clear hak lk wk
                    go_wp2_with fail
                    go_roundw
                    case rel => exact ⟨k + 1, by have := HKL.out; omega, by go_num, B9.out⟩
                    case measure => have := HKL.out; simp [intOf]; omega
                  | true =>
                    rw [hak] at ak
                    rw [HAW.out k hak] at wk
                    cases fv with
                    | false =>
                      clear hak lk
                      go_wp2_with fail
                      go_roundw
                      case rel => exact ⟨k + 1, by have := HKL.out; omega, by go_num, B9.out⟩
                      case measure => have := HKL.out; simp [intOf]; omega
                    | true =>
                      rw [HAL.out rfl k hak] at lk
                      clear hak
                      go_wp2_with fail
                      go_roundw
                      case rel => exact ⟨k + 1, by have := HKL.out; omega, by go_num, B9.out⟩
                      case measure => have := HKL.out; simp [intOf]; omega
            · obtain rfl : k = n := by omega
              have HB9 := Lib.hid (to_ HB7.out hbel)
              have RL9 := Lib.hid (Rl7.out.on hbel)
              clear hbel
              by_cases hk0 : k = 0
              · subst hk0
                go_wp2_with fail
                refine (known14_any _).mono ?_
                rintro e w9 ⟨rfl, b9⟩
                have HB10 := Lib.hid (to_ HB9.out b9)
                clear b9
                go_wp2_with fail
                go_ret
                exact ⟨rfl, HB10.out⟩
              · have k0 : ((k : Int) == 0) = false := by simp; omega
                have hk1 : (0 : Int) < (k : Int) := by omega
                obtain ⟨al, rfl, lk⟩ := RL9.out.at_ (show 0 < k by omega)
                rw [HL0.out (by omega), show al.add 0 = al by simp [Addr.add]] at lk
                clear hk0
                go_wp2_with fail
                refine (known14_any _).mono ?_
                rintro e w9 ⟨rfl, b9⟩
                have HB10 := Lib.hid (to_ HB9.out b9)
                clear b9
                go_wp2_with fail
                go_ret
                exact ⟨rfl, HB10.out⟩
end Go.Proofs.Ytckpbdphilifoaa.By
