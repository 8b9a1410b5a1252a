/-
  WALK: the document's own Way.
-/
import Derived.Test.YtfgnlemoodfgoaaGt
import Derived.Test.YtfgnlemoodfgoaaGl
import Derived.Test.YtfgnlemoodfgoaaGp
namespace Go.Proofs.Ytfgnlemoodfgoaa.By
open Go.RowKit
open Mem Gm Rf

theorem way_out {g : List (List Int)} {a b : Int} (h : isP g a = false ∨ isP g b = false) : way g a b = [] := by
  refine way_none fun v hv => ?_
  rcases h with h | h
  · exact reach_out h v
  · cases hr : reach g [a] v
    · rfl
    · have := reach_lt hr
      have h2 : isP g b = true := isP_iff.2 ⟨by omega, by omega⟩
      rw [h] at h2; cases h2

theorem isP_no {g : List (List Int)} {a : Int} (h : ¬ (0 ≤ a ∧ a < g.length)) : isP g a = false := by
  cases e : isP g a
  · rfl
  · exact absurd (isP_iff.1 e) h

/-- The least place so far that is next. -/
def nxj (g : List (List Int)) (d : Nat → Int) (v : Nat) (m : Int) (j : Nat) : Int := match (List.range j).find? (fun u => E g v u && d u == m) with | some u => u | none => -1
theorem nxj_next (g : List (List Int)) (d : Nat → Int) (v : Nat) (m : Int) (j : Nat) : nxj g d v m (j + 1) = if nxj g d v m j < 0 then (if E g v j && d j == m then (j : Int) else -1) else nxj g d v m j := by
  unfold nxj
  rw [List.range_succ, List.find?_append]
  cases h : (List.range j).find? (fun u => E g v u && d u == m) with
  | some u =>
    simp only [Option.some_or]
    rw [if_neg (by omega)]
  | none =>
    simp only [Option.none_or]
    rw [if_pos (by omega)]
    by_cases h2 : (E g v j && d j == m) = true
    · simp [h2]
    · have h2' : (E g v j && d j == m) = false := by simpa using h2
      simp [h2']

theorem nx_neg {g : List (List Int)} {d : Nat → Int} {v : Nat} {m : Int} {j : Nat} {x : Int} (h : nxj g d v m j = x) (hx : x < 0) : x = -1 := by
  rw [← h] at hx ⊢
  unfold nxj at hx ⊢
  cases e : (List.range j).find? (fun u => E g v u && d u == m) with
  | some u => rw [e] at hx; simp only at hx; omega
  | none => rfl

theorem built_own (w : World) (base : Nat) (x : Int) (hb : base ≤ w.heap.size) : (w.alloc (.cells #[.int .i64 x] 3)).ownsRow base 3 1 (.slice (some ⟨w.heap.size, 0, none⟩) 1 1) 1 [.int .i64 x] :=
  ⟨rfl, .inr ⟨w.heap.size, 1, #[.int .i64 x], rfl, hb, heap_alloc_new w _, Nat.le_refl _, by decide, rfl, rfl⟩⟩

theorem rway_none (w : World) (A : Option Addr) (c N : Nat) (a b : Int) (g : List (List Int)) (hN : g.length = N) (h : ¬ (0 ≤ a ∧ a < (N : Int)) ∨ ¬ (0 ≤ b ∧ b < (N : Int))) :
    Calls Try.prog 17 #[.slice A N c, .int .i64 a, .int .i64 b] w (WayAns g a b w) := by
  have HW := Lib.hid (show way g a b = [] from way_out (by
    rcases h with h | h
    · exact .inl (isP_no (by rw [hN]; exact h))
    · exact .inr (isP_no (by rw [hN]; exact h))))
  have hd : a < 0 ∨ (¬ a < 0 ∧ (N : Int) ≤ a) ∨ (¬ a < 0 ∧ ¬ (N : Int) ≤ a ∧ b < 0) ∨ (¬ a < 0 ∧ ¬ (N : Int) ≤ a ∧ ¬ b < 0 ∧ (N : Int) ≤ b) := by omega
  clear h hN
  rcases hd with h1 | ⟨h1, h2⟩ | ⟨h1, h2, h3⟩ | ⟨h1, h2, h3, h4⟩
  all_goals
    go_enter Try.func17, Try.ntmps17
    go_wp2_with fail
    go_ret
    exact ⟨none, 0, by rw [HW.out]; rfl, by rw [HW.out]; exact .nil, Below.refl _ _⟩

set_option maxHeartbeats 4000000 in
theorem rway_some (w : World) (A : Option Addr) (c N a b : Nat) (g : List (List Int)) (hN : g.length = N) (h : Gr w w.heap.size (.slice A N c) g) (hl : N ≤ 1000) (ha : a < N) (hb : b < N) :
    Calls Try.prog 17 #[.slice A N c, .int .i64 (a : Int), .int .i64 (b : Int)] w (WayAns g a b w) := by
  obtain ⟨i0, hi, hz0, hz1, hz2⟩ := info_parts infoI
  have HGG := Lib.hid h
  have HFAR := Lib.hid (far_any w A c N b g hN h hl hb)
  have HN := Lib.hid hN
  have HB := Lib.hid (show b < g.length by omega)
  obtain ⟨d, hd⟩ : ∃ d, dAt g b N = d := ⟨_, rfl⟩
  have HD := Lib.hid hd
  have h1 : ¬ ((a : Int) < 0) := by omega
  have h2 : ¬ ((b : Int) < 0) := by omega
  have h3 : ¬ ((N : Int) ≤ (a : Int)) := by omega
  have h4 : ¬ ((N : Int) ≤ (b : Int)) := by omega
  have haI : (a : Int) < (N : Int) := by omega
  clear h hN
  by_cases hda : d a < 0
  · have HW := Lib.hid (show way g a b = [] from way_far HB.out (by rw [HN.out]; exact Nat.le_refl _) (by rw [← HD.out] at hda; exact hda))
    have hdb := Lib.hid hda
    clear hd
    go_enter Try.func17, Try.ntmps17
    obtain ⟨x, hx⟩ : ∃ x, d a = x := ⟨_, rfl⟩
    rw [hx] at hda
    have HX := Lib.hid hx
    clear hx
    go_wp2_with (go_at_call 23; refine HFAR.out.mono ?_; rintro e w1 ⟨rfl, hT, hB1⟩; have cfa : w1.cell? ⟨w.heap.size, a, none⟩ = some (.int .i64 x) := (by rw [hT.cell, di_at _ ha, HD.out, HX.out]); have HB1 := Lib.hid hB1; clear hT hB1)
    go_ret
    exact ⟨none, 0, by rw [HW.out]; rfl, by rw [HW.out]; exact .nil, HB1.out⟩
  · obtain ⟨m, hm⟩ : ∃ m : Nat, d a = (m : Int) := ⟨(d a).toNat, by omega⟩
    have HW := Lib.hid (show way g a b = gw g d m a by rw [← HD.out] at hm ⊢; exact way_doc HB.out hm)
    have hmN : m ≤ N := by
      rcases dAt_spec g b HB.out N a with ⟨j, hj, _, _, h5⟩ | ⟨_, h5⟩
      · rw [HD.out, hm] at h5; omega
      · rw [HD.out, hm] at h5; omega
    have HM := Lib.hid hm
    have hm0 : ¬ ((m : Int) < 0) := by omega
    clear hd hda hm
    go_enter Try.func17, Try.ntmps17
    go_wp2_with (go_at_call 23; refine HFAR.out.mono ?_; rintro e w1 ⟨rfl, hT, hB1⟩; rw [HD.out] at hT; have cfa : w1.cell? ⟨w.heap.size, a, none⟩ = some (.int .i64 (m : Int)) := (by rw [hT.cell, di_at _ ha, HM.out]); have HB1 := Lib.hid hB1; have HT1 := Lib.hid hT; clear hT hB1)
    go_loopg [8, 9] m (fun m' ov av wr => ∃ (pfx : List Nat) (v : Nat), gw g d m a = pfx ++ gw g d m' v ∧ (d v = (m' : Int) ∧ v < N) ∧ pfx.length + m' = m ∧ av = .int .i64 (v : Int) ∧ wr.ownsRow (w.heap.size + 1) 3 1 ov (pfx.length + 1) (nats (pfx ++ [v])) ∧ Blk wr w.heap.size 3 (di N d) ∧ Below w.heap.size w wr)
    case atStart =>
      refine ⟨[], a, rfl, ⟨HM.out, ha⟩, by simp, rfl, ?_, HT1.out.alloc _, HB1.out.alloc HB1.out.size _⟩
      exact built_own w1 (w.heap.size + 1) a HT1.out.lt
    case round =>
      obtain ⟨pfx, v, hgw, ⟨hdv, hvN⟩, hpl, rfl, hown, hT, hB⟩ := hrel
      cases gk with
      | zero =>
        have hvb : v = b := (d_zero HB.out N).1 (by rw [HD.out]; exact hdv)
        have HFIN := Lib.hid (show way g a b = pfx ++ [v] by rw [HW.out, hgw]; rfl)
        have hvE : ((v : Int) != (b : Int)) = false := by simp [hvb]
        obtain ⟨g', cap', rfl⟩ := ownsRow_succ hown
        have HO := Lib.hid hown
        have HBB := Lib.hid hB
        clear hgw hdv hpl hown hT hB hvb
        go_wp2_with fail
        go_ret
        refine ⟨some ⟨g', 0, none⟩, cap', ?_, ?_, HBB.out⟩
        · rw [HFIN.out]; simp
        · rw [HFIN.out]
          have := SlV.of_own HO.out
          simpa using this
      | succ m' =>
        have hvb : v ≠ b := fun e => by
          have := (d_zero HB.out N (v := v)).2 e
          rw [HD.out, hdv] at this; omega
        have hvE : ((v : Int) != (b : Int)) = true := by simp; omega
        obtain ⟨u, hu, huE, hud, _⟩ := nxt_some HB.out (k := N) (v := v) (m := m') (by rw [HD.out, hdv]; rfl)
        rw [HD.out] at hu hud
        have huN : u < N := by have := (E_iff.1 huE).2.1; rw [HN.out] at this; exact this
        have HNX := Lib.hid (show nxj g d v m' N = (u : Int) by unfold nxj; unfold nxt at hu; rw [HN.out] at hu; rw [hu])
        have HGW := Lib.hid (show gw g d m a = (pfx ++ [v]) ++ gw g d m' u by rw [hgw, gw, hu]; simp)
        obtain ⟨x, hx⟩ : ∃ x, ((m' + 1 : Nat) : Int) = x := ⟨_, rfl⟩
        have cv : wr.cell? ⟨w.heap.size, v, none⟩ = some (.int .i64 x) := by rw [hT.cell, di_at _ hvN, hdv, hx]
        have hwx : IntKind.i64.wrap (x - 1) = (m' : Int) := by
          have h5 : x - 1 = (m' : Int) := by omega
          rw [h5, IntKind.wrap_i64]; omega
        have hvI : (v : Int) < (N : Int) := by omega
        have hv0 : (0 : Int) ≤ (v : Int) := by omega
        have HUD := Lib.hid hud
        have HO := Lib.hid hown
        have HT := Lib.hid hT
        have HBB := Lib.hid hB
        have HPL := Lib.hid hpl
        obtain ⟨g', cap', rfl⟩ := ownsRow_succ hown
        clear hgw hdv hpl hown hT hB hvb hx hu huE hud
        go_wp2_with fail
        obtain ⟨wo, hwo⟩ : ∃ wo, wo = wr := ⟨_, rfl⟩
        subst hwo
        go_loopw [10, 11] (fun nv i wr => ∃ (j q : Nat) (nx : Int), j ≤ N ∧ i = .int .i64 j ∧ nv = .int .i64 nx ∧ Hid (nxj g d v m' j = nx) ∧ Hid (wr = wo.drewN q)) (fun _ i _ => N - (intOf i).toNat)
        case atStart => exact ⟨0, 0, -1, by omega, rfl, rfl, Lib.hid (by simp [nxj]), Lib.hid rfl⟩
        case round =>
          obtain ⟨j, q, nx, hj, rfl, rfl, HNJ, HQ⟩ := hrel
          by_cases hjl : j < N
          · have cj : wr.cell? ⟨w.heap.size, j, none⟩ = some (.int .i64 (d j)) := by rw [HQ.out]; show wo.cell? _ = _; rw [HT.out.cell, di_at _ hjl]
            have cv2 : wr.cell? ⟨w.heap.size, v, none⟩ = some (.int .i64 x) := by rw [HQ.out]; exact cv
            obtain ⟨y, hy⟩ : ∃ y, d j = y := ⟨_, rfl⟩
            obtain ⟨bl, hbl⟩ : ∃ bl, E g v j = bl := ⟨_, rfl⟩
            rw [hy] at cj
            have hjI : (j : Int) < (N : Int) := by omega
            have hj0 : (0 : Int) ≤ (j : Int) := by omega
            have hstep := nxj_next g d v m' j
            rw [HNJ.out, hy, hbl] at hstep
            have HE := Lib.hid (show ∀ n, Calls Try.prog 18 #[.slice A N c, .int .i64 (v : Int), .int .i64 (j : Int)] (wr.drewN n) fun e w' => e = .returned (.bool bl) ∧ w' = wr.drewN n from fun n => by
              have h1 : Gr (wr.drewN n) w.heap.size (.slice A N c) g := by rw [HQ.out]; exact (HGG.out.below HBB.out).keep fun _ _ => rfl
              have h2 := edge_any (wr.drewN n) w.heap.size A c g (by rw [HN.out]; exact h1) v j (by rw [HN.out]; exact hvN) (by rw [HN.out]; exact hjl)
              rw [HN.out, hbl] at h2
              exact h2.mono fun e w' ⟨he, hw⟩ => ⟨he, hw.symm⟩)
            by_cases h5 : nx < 0
            · rw [if_pos h5] at hstep
              have h6 : decide (nx < 0) = true := by simpa using h5
              cases bl with
              | false =>
                have HS := Lib.hid (show nxj g d v m' (j + 1) = -1 by rw [hstep]; rfl)
                clear hstep hy hbl
                go_wp2_with fail
                go_quiet ((go_at_call 18; exact Calls.quiet_of_same (HE.out _)))
                go_wp2_with fail
                go_roundw
                case rel => exact ⟨j + 1, q + nq, nx, by omega, by go_num, rfl, by rw [nx_neg (HNJ.out) h5]; exact HS, Lib.hid (by rw [HQ.out, World.drewN_drewN])⟩
                case measure => simp [intOf]; omega
              | true =>
                by_cases h7 : y = (m' : Int)
                · have h8 : (y == (m' : Int)) = true := by simpa using h7
                  have HS := Lib.hid (show nxj g d v m' (j + 1) = (j : Int) by rw [hstep, h8]; rfl)
                  clear hstep hy hbl h7
                  go_wp2_with fail
                  go_quiet ((go_at_call 18; exact Calls.quiet_of_same (HE.out _)))
                  go_wp2_with fail
                  go_roundw
                  case rel => exact ⟨j + 1, q + nq, j, by omega, by go_num, rfl, HS, Lib.hid (by rw [HQ.out, World.drewN_drewN])⟩
                  case measure => simp [intOf]; omega
                · have h8 : (y == (m' : Int)) = false := by simpa using h7
                  have HS := Lib.hid (show nxj g d v m' (j + 1) = -1 by rw [hstep, h8]; rfl)
                  clear hstep hy hbl h7
                  go_wp2_with fail
                  go_quiet ((go_at_call 18; exact Calls.quiet_of_same (HE.out _)))
                  go_wp2_with fail
                  go_roundw
                  case rel => exact ⟨j + 1, q + nq, nx, by omega, by go_num, rfl, by rw [nx_neg (HNJ.out) h5]; exact HS, Lib.hid (by rw [HQ.out, World.drewN_drewN])⟩
                  case measure => simp [intOf]; omega
            · rw [if_neg h5] at hstep
              have HS := Lib.hid hstep
              have h6 : decide (nx < 0) = false := by simpa using h5
              clear hstep hy hbl
              go_wp2_with fail
              go_quiet (fail)
              go_wp2_with fail
              go_roundw
              case rel => exact ⟨j + 1, q + nq, nx, by omega, by go_num, rfl, HS, Lib.hid (by rw [HQ.out, World.drewN_drewN])⟩
              case measure => simp [intOf]; omega
          · obtain rfl : j = N := by omega
            have hnx : nx = (u : Int) := HNJ.out.symm.trans HNX.out
            subst hnx
            have HOQ := Lib.hid (own_keep (w' := wr.alloc (.cells #[.int .i64 (u : Int)] 3)) HO.out fun k _ hk _ => by rw [HQ.out]; exact Below.heap_alloc _ _ _ hk)
            have HNW := Lib.hid (show (wr.alloc (.cells #[.int .i64 (u : Int)] 3)).cell? ⟨wr.heap.size, 0, none⟩ = some (.int .i64 (u : Int)) by rw [(Blk.new wr 3 _).cell]; rfl)
            have hszq : wo.heap.size = wr.heap.size := by rw [HQ.out]; rfl
            have HTQ := Lib.hid (show Blk wr w.heap.size 3 (di j d) by rw [HQ.out]; exact HT.out)
            have HBQ := Lib.hid (show Below w.heap.size w wr by rw [HQ.out]; exact below_drewN HBB.out q)
            have HS1 := Lib.hid (show pfx.length + 1 + 1 ≤ maxLen by have := HPL.out; unfold maxLen; omega)
            have HS2 := Lib.hid (show (pfx.length + 1 + 1) * 8 ≤ 140737488355328 by have := HPL.out; omega)
            have HS3 := Lib.hid (show w.heap.size + 1 ≤ (wr.alloc (.cells #[.int .i64 (u : Int)] 3)).heap.size by have := HTQ.out.lt; simp; omega)
            have hpm : pfx.length ≤ 1000 := by have := HPL.out; omega
            clear hszq
            go_wp2_with (at_builtin; refine wpList_append_where _ rfl _ _ 23 rfl (w.heap.size + 1) 3 i0 (.int .i64 0) 8 Try.underlying23 hi hz0 hz1 hz2 rfl _ _ _ rfl HOQ.out ⟨wr.heap.size, 0, none⟩ 1 (.int .i64 (u : Int)) rfl HNW.out rfl HS1.out HS2.out HS3.out ?_; intro v' w' h2 h3 h4; clear h4; obtain ⟨g2, cap2, rfl⟩ := ownsRow_succ h2; have hlast : w'.cell? ⟨g2, pfx.length + 1, none⟩ = some (.int .i64 (u : Int)) := (by have := h2.cells (g := g2) rfl (pfx.length + 1) (.int .i64 (u : Int)) (by rw [List.getElem?_append_right (by simp [nats])]; simp [nats]); rwa [add_plain, Nat.zero_add] at this); have H2 := Lib.hid h2; have H3 := Lib.hid h3; clear h2 h3)
            have hrow : w'.ownsRow (w.heap.size + 1) 3 1 (.slice (some ⟨g2, 0, none⟩) (pfx.length + 1 + 1) cap2) ((pfx ++ [v]).length + 1) (nats (pfx ++ [v] ++ [u])) := by
              have := H2.out
              rw [nats_snoc]
              simpa using this
            have hgo : ∀ r, (Value.slice (some ⟨g', 0, none⟩) (pfx.length + 1) cap').ownBlock = some r → w.heap.size + 1 ≤ r := fun r e => (HO.out.lt r e).1
            have hT3 : Blk w' w.heap.size 3 (di j d) := by
              have h1 := HTQ.out.alloc (.cells #[.int .i64 (u : Int)] 3)
              exact (H3.out.block w.heap.size h1.lt (fun e => by have := hgo _ e.symm; omega)).trans h1
            have hB3 : Below w.heap.size w w' := (HBQ.out.alloc HBQ.out.size _).grown H3.out (by have := HS3.out; omega) fun r e => by have := hgo r e; omega
            go_roundg m'
            case measure => omega
            case rel => exact ⟨pfx ++ [v], u, HGW.out, ⟨HUD.out, huN⟩, by have := HPL.out; simp; omega, rfl, hrow, hT3, hB3⟩
end Go.Proofs.Ytfgnlemoodfgoaa.By
