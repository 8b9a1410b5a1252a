/-
  WALKS of layer 18: what comes after some places, in a row of its own; the places of what defers.
-/
import Derived.Test.YthkbdclnnpcoiaaUk
namespace Go.Proofs.Ythkbdclnnpcoiaa.By
open Go.RowKit
open Mem Gm Rf

def RA2 (n : Nat) (g : List (List Int)) (fs : List Int) (w : World) (e : Ending) (w' : World) : Prop := ∃ A', e = .returned (.slice A' n n) ∧ SlV w' w'.heap.size (.slice A' n n) (reachV g fs) ∧ Below w.heap.size w w' ∧ ∀ ad, A' = some ad → w.heap.size ≤ ad.block

theorem preach2 (w : World) (A A2 : Option Addr) (n c c2 : Nat) (O T : Nat → Int) (fs : List Int) (hG : Gr w w.heap.size (.slice A n c) (gph n O T)) (hF : SlV w w.heap.size (.slice A2 fs.length c2) (ints fs)) (hn : n ≤ 1000) (hl : fs.length ≤ 10000) :
    Calls Try.prog 24 #[.slice A n c, .slice A2 fs.length c2] w (RA2 n (gph n O T) fs w) := by
  have h := reach_any A A2 c c2 w.heap.size (gph n O T) fs w (by rw [gph_length]; exact hG) hF (Nat.le_refl _) (by rw [gph_length]; exact hn) (gph_fuel n O T hn _ hl)
  rw [gph_length] at h
  exact h

set_option maxRecDepth 100000 in
set_option maxHeartbeats 2000000 in
theorem after2_any (w : World) (A A2 : Option Addr) (n c c2 M : Nat) (O T : Nat → Int) (ms : List Int) (h : Cd w w.heap.size A n c O T) (hM : ms.length = M) (hm : SlV w w.heap.size (.slice A2 M c2) (ints ms)) (hn : n ≤ 1000) (hl : M ≤ 1000) :
    Calls Try.prog 19 #[.slice A n c, .slice A2 M c2] w (RA2 n (gph n O T) (behs n O T ms) w) := by
  obtain ⟨i0, hi, hz0, hz1, hz2⟩ := info_parts infoI
  have HC := Lib.hid (show ∀ W, Below w.heap.size w W → Cd W W.heap.size A n c O T from fun W hb => (h.below hb).more hb.size)
  have HG := Lib.hid (fun W (hc : Cd W W.heap.size A n c O T) => graph_any W A n c O T hc hn)
  have HN := Lib.hid (fun W (hc : Cd W W.heap.size A n c O T) (i : Int) => next_any W A n c O T hc i)
  have HR := Lib.hid (fun W A A2 c c2 fs hG hF hl => preach2 W A A2 n c c2 O T fs hG hF hn hl)
  have HE := Lib.hid (show ∀ j, j < M → ∃ ad, A2 = some ad ∧ ad.block < w.heap.size ∧ w.cell? (ad.add j) = some (.int .i64 (el ms j)) from fun j hj => by
    rw [← hM] at hm
    rcases ints_row hm with ⟨e, _⟩ | ⟨ad, e, hb, hc⟩
    · rw [e] at hM; simp at hM; omega
    · exact ⟨ad, e, hb, hc j (by omega)⟩)
  have HK := Lib.hid (show ∀ (p : Addr) (u : Value) (wr : World), Below w.heap.size w wr → w.cell? p = some u → wr.cell? p = some u from fun p u wr hb hc => (hb.cell (World.block_lt_of_cell? w _ hc)).trans hc)
  have HM := Lib.hid hM
  clear h hm hM
  go_enter Try.func19, Try.ntmps19
  go_wp2_with fail
  go_loopw [5, 10] (fun v i wr => ∃ k : Nat, k ≤ M ∧ i = .int .i64 (k : Int) ∧ wr.ownsRow w.heap.size 3 1 v (ints (behT n O T ms k)).length (ints (behT n O T ms k)) ∧ Below w.heap.size w wr) (fun _ i _ => M - (intOf i).toNat)
  case atStart => exact ⟨0, Nat.zero_le _, rfl, World.ownsRow_nil _ _ _ _, Below.refl _ _⟩
  case round =>
    obtain ⟨k, hk, rfl, hown, hbel⟩ := hrel
    by_cases hlt : k < M
    · have hkI : (k : Int) < (M : Int) := by omega
      obtain ⟨ad, rfl, _, hc⟩ := HE.out k hlt
      have hc := HK.out _ _ _ hbel hc
      have hx := behT_next n O T (ms := ms) (k := k) (by rw [HM.out]; exact hlt)
      have hlen := behT_length n O T ms k
      generalize el ms k = x at hc hx
      have hl2 := nxt_length n O T x
      have HX := Lib.hid hx
      have HL2 := Lib.hid hl2
      have HLEN := Lib.hid hlen
      have HOW := Lib.hid hown
      have HBE := Lib.hid hbel
      clear hown hbel hx hl2 hlen
      go_wp2_with (first
        | (go_at_call 23; refine (HN.out wr (HC.out wr HBE.out) x).mono ?_; rintro e w2 ⟨nv, rfl, hrw, hb2⟩; have HRW := Lib.hid hrw; have HB2 := Lib.hid hb2; obtain ⟨A3, c3, rfl, _⟩ := hrw; clear hb2)
        | (at_builtin; go_loud (refine wpList_append_slv _ rfl _ _ 22 rfl w.heap.size 3 i0 (.int .i64 0) 8 Try.underlying22 hi hz0 hz1 hz2 rfl _ _ rfl (own_keep HOW.out fun g _ hg _ => HB2.out.block g hg) w2.heap.size (.slice A3 (nxt n O T x).length c3) (ints (nxt n O T x)) rfl (SlV.of_own (HRW.out.own)) (ints_one _) (by have := HLEN.out; have := HL2.out; rw [ints_len, ints_len]; unfold maxLen; omega) (by have := HLEN.out; have := HL2.out; rw [ints_len, ints_len]; omega) (by have := HBE.out.size; have := HB2.out.size; omega) ?_; intro v' w4 h2 h3; have H2 := Lib.hid h2; have H3 := Lib.hid h3; clear h2 h3)))
      go_roundw
      case rel =>
        have hb2 : Below w.heap.size w w2 := HBE.out.trans (HB2.out.mono HBE.out.size)
        refine ⟨k + 1, by omega, by go_num, ?_, hb2.grown H3.out hb2.size fun r e => (HOW.out.lt r e).1⟩
        rw [HX.out]
        have h9 := H2.out
        rw [ints_app] at h9
        exact h9
      case measure => simp [intOf]; omega
    · obtain rfl : k = M := by omega
      obtain ⟨A3, c3, rfl⟩ := own_form hown
      have hall := behT_all n O T ms
      rw [HM.out] at hall
      have hlen := behT_length n O T ms k
      rw [hall] at hown hlen
      rw [ints_len] at hown
      have HLEN := Lib.hid hlen
      have HIL := Lib.hid (ints_len (behT n O T ms k))
      rw [hall] at HIL
      have HOW := Lib.hid hown
      have HBE := Lib.hid hbel
      rw [ints_len, hall]
      clear hown hbel hlen hall HIL
      go_wp2_with (first
        | (go_at_call 25; refine (HG.out wr (HC.out wr HBE.out)).mono ?_; rintro e w1 h1; obtain ⟨A1, c1, rfl, hg1, hb1⟩ := h1.n; have HG1 := Lib.hid hg1; have HB1 := Lib.hid hb1; clear hg1 hb1 h1)
        | (go_at_call 24; go_loud (refine (HR.out w1 A1 A3 c1 c3 (behs n O T ms) HG1.out (((SlV.of_own HOW.out).below HB1.out).more HB1.out.size) (by have := HLEN.out; omega)).mono ?_; rintro e w2 ⟨A4, rfl, hs2, hb2, ha2⟩; have HA2 := Lib.hid ha2; clear ha2; have HS2 := Lib.hid hs2; have HB2 := Lib.hid hb2; clear hs2 hb2)))
      go_ret
      exact ⟨_, rfl, HS2.out, (HBE.out.trans (HB1.out.mono HBE.out.size)).trans (HB2.out.mono (Nat.le_trans HBE.out.size HB1.out.size)), fun ad e => Nat.le_trans (Nat.le_trans HBE.out.size HB1.out.size) (HA2.out ad e)⟩

/-- The places of what defers, of the first k. -/
def mkT (O : Nat → Int) (k : Nat) : List Int := ((List.range k).filter fun i => O i == 21).map fun (i : Nat) => (i : Int)
theorem mkT_yes {O : Nat → Int} {k : Nat} (h : O k = 21) : mkT O (k + 1) = mkT O k ++ [(k : Int)] := by
  unfold mkT; rw [List.range_succ, List.filter_append]; simp [h]
theorem mkT_no {O : Nat → Int} {k : Nat} (h : O k ≠ 21) : mkT O (k + 1) = mkT O k := by
  unfold mkT; rw [List.range_succ, List.filter_append]; simp [h]
theorem mkT_length (O : Nat → Int) (k : Nat) : (mkT O k).length ≤ k := by
  unfold mkT; rw [List.length_map]
  have := List.length_filter_le (fun i => O i == 21) (List.range k)
  simpa using this

theorem news_at (W : World) (x : Int) : ∀ j u, [Value.int .i64 x][j]? = some u → (W.alloc (.cells #[.int .i64 x] 3)).cell? ((⟨W.heap.size, 0, none⟩ : Addr).add j) = some u := fun j u hu => by
  rw [add_plain, Nat.zero_add, (Blk.new W _ _).cell]; simpa using hu

set_option maxRecDepth 100000 in
set_option maxHeartbeats 2000000 in
theorem rmarks_any (w : World) (A : Option Addr) (n c L : Nat) (O T : Nat → Int) (h : CW w A n c O T) (hn : n ≤ 1000) (hL : (mkT O n).length = L) :
    Calls Try.prog 11 #[.slice A n c] w (IAns L (mkT O n) w) := by
  obtain ⟨i0, hi, hz0, hz1, hz2⟩ := info_parts infoI
  have HR := Lib.hid (fun W (hb : Below w.heap.size w W) i (hi : i < n) => Cd.at_ (CW.on h hb) hi)
  have HL := Lib.hid hL
  clear h hL
  go_enter Try.func11, Try.ntmps11
  go_wp2_with fail
  go_loopw [3, 4] (fun v i wr => ∃ k : Nat, k ≤ n ∧ i = .int .i64 (k : Int) ∧ wr.ownsRow w.heap.size 3 1 v (mkT O k).length (ints (mkT O k)) ∧ Below w.heap.size w wr) (fun _ i _ => n - (intOf i).toNat)
  case atStart => exact ⟨0, Nat.zero_le _, rfl, World.ownsRow_nil _ _ _ _, Below.refl _ _⟩
  case round =>
    obtain ⟨k, hk, rfl, hown, hbel⟩ := hrel
    by_cases hlt : k < n
    · have hkI : (k : Int) < (n : Int) := by omega
      obtain ⟨ad, x, y, z, rfl, _, c0, c1, c2, c3, c4⟩ := HR.out wr hbel k hlt
      have HOW := Lib.hid hown
      have HBE := Lib.hid hbel
      have HLE := Lib.hid (mkT_length O k)
      clear hown hbel c1 c2 c3 c4
      by_cases ho : O k = 21
      · have HX := Lib.hid (mkT_yes ho)
        rw [ho] at c0
        clear ho
        go_wp2_with (at_builtin; go_loud (refine wpList_append_own _ rfl _ _ 22 rfl w.heap.size 3 i0 (.int .i64 0) 1 8 Try.underlying22 hi hz0 hz1 hz2 rfl (by decide) _ _ _ rfl (own_keep HOW.out fun gg _ hlt _ => Below.heap_alloc _ _ _ hlt) ⟨wr.heap.size, 0, none⟩ 1 1 [.int .i64 (k : Int)] rfl rfl (news_at wr (k : Int)) (by simp [Value.oneCell']) (by have := HLE.out; unfold maxLen; omega) (by have := HLE.out; omega) (by have := HBE.out.size; simp; omega) ?_; intro v' w' h2 h3 h4; clear h4; have H2 := Lib.hid h2; have H3 := Lib.hid h3; clear h2 h3))
        go_roundw
        case rel =>
          have hb2 := to_ HBE.out (alloc_ wr (.cells #[.int .i64 (k : Int)] 3))
          refine ⟨k + 1, by omega, by go_num, ?_, hb2.grown H3.out hb2.size fun r e => (HOW.out.lt r e).1⟩
          rw [HX.out]
          have h9 := H2.out
          rw [ints_snoc] at h9
          rw [show (mkT O k ++ [(k : Int)]).length = (mkT O k).length + 1 by simp]
          exact h9
        case measure => simp [intOf]; omega
      · have HX := Lib.hid (mkT_no ho)
        have hne : (O k == 21) = false := by simpa using ho
        generalize O k = o at c0 hne
        clear ho
        go_wp2_with fail
        go_roundw
        case rel => exact ⟨k + 1, by omega, by go_num, by rw [HX.out]; exact HOW.out, HBE.out⟩
        case measure => simp [intOf]; omega
    · obtain rfl : k = n := by omega
      obtain ⟨A3, c3, hv⟩ := own_form hown
      rw [HL.out] at hv hown
      subst hv
      have HOW := Lib.hid hown
      have HBE := Lib.hid hbel
      clear hown hbel
      go_wp2_with fail
      go_ret
      refine ⟨_, _, rfl, ?_, HBE.out⟩
      have h9 := SlV.of_own HOW.out
      exact h9

set_option maxRecDepth 100000 in
set_option maxHeartbeats 2000000 in
theorem marks_any (w : World) (A : Option Addr) (n c L : Nat) (O T : Nat → Int) (h : CW w A n c O T) (hn : n ≤ 1000) (hL : (mkT O n).length = L) :
    Calls Try.prog 10 #[.slice A n c] w (IAns L (mkT O n) w) := by
  obtain ⟨i0, hi, hz0, hz1, hz2⟩ := info_parts infoI
  have HR := Lib.hid (fun W (hb : Below w.heap.size w W) i (hi : i < n) => Cd.at_ (CW.on h hb) hi)
  have HL := Lib.hid hL
  clear h hL
  go_enter Try.func10, Try.ntmps10
  go_wp2_with fail
  go_loopw [3, 8] (fun v i wr => ∃ k : Nat, k ≤ n ∧ i = .int .i64 (k : Int) ∧ wr.ownsRow w.heap.size 3 1 v (mkT O k).length (ints (mkT O k)) ∧ Below w.heap.size w wr) (fun _ i _ => n - (intOf i).toNat)
  case atStart => exact ⟨0, Nat.zero_le _, rfl, World.ownsRow_nil _ _ _ _, Below.refl _ _⟩
  case round =>
    obtain ⟨k, hk, rfl, hown, hbel⟩ := hrel
    by_cases hlt : k < n
    · have hkI : (k : Int) < (n : Int) := by omega
      obtain ⟨ad, x, y, z, rfl, _, c0, c1, c2, c3, c4⟩ := HR.out wr hbel k hlt
      have HOW := Lib.hid hown
      have HBE := Lib.hid hbel
      have HLE := Lib.hid (mkT_length O k)
      clear hown hbel
      generalize T k = tk at c4
      by_cases ho : O k = 21
      · have HX := Lib.hid (mkT_yes ho)
        rw [ho] at c0
        clear ho
        obtain ⟨W2, hW2⟩ : ∃ W2, wr.alloc (.cells #[.int .i64 21, .int .i64 x, .int .i64 y, .int .i64 z, .int .i64 tk] 39) = W2 := ⟨_, rfl⟩
        have HB2 := Lib.hid (show Below wr.heap.size wr W2 from by rw [← hW2]; exact alloc_ _ _)
        have c9 : W2.cell? ⟨wr.heap.size, 0, none⟩ = some (.int .i64 21) := by rw [← hW2]; exact (Blk.new wr _ _).cell 0
        go_wp2_with (at_builtin; go_loud (refine wpList_append_own _ rfl _ _ 22 rfl w.heap.size 3 i0 (.int .i64 0) 1 8 Try.underlying22 hi hz0 hz1 hz2 rfl (by decide) _ _ _ rfl (own_keep HOW.out fun gg _ hlt _ => (Below.heap_alloc _ _ _ (Nat.lt_of_lt_of_le hlt HB2.out.size)).trans (HB2.out.block gg hlt)) ⟨W2.heap.size, 0, none⟩ 1 1 [.int .i64 (k : Int)] rfl rfl (news_at W2 (k : Int)) (by simp [Value.oneCell']) (by have := HLE.out; unfold maxLen; omega) (by have := HLE.out; omega) (by have := HBE.out.size; have := HB2.out.size; simp; omega) ?_; intro v' w' h2 h3 h4; clear h4; have H2 := Lib.hid h2; have H3 := Lib.hid h3; clear h2 h3))
        go_roundw
        case rel =>
          have hb2 := to_ (to_ HBE.out HB2.out) (alloc_ W2 (.cells #[.int .i64 (k : Int)] 3))
          refine ⟨k + 1, by omega, by go_num, ?_, hb2.grown H3.out hb2.size fun r e => (HOW.out.lt r e).1⟩
          rw [HX.out]
          have h9 := H2.out
          rw [ints_snoc] at h9
          rw [show (mkT O k ++ [(k : Int)]).length = (mkT O k).length + 1 by simp]
          exact h9
        case measure => simp [intOf]; omega
      · have HX := Lib.hid (mkT_no ho)
        have hne : (O k == 21) = false := by simpa using ho
        generalize O k = o at c0 hne
        clear ho
        go_wp2_with fail
        go_roundw
        case rel => exact ⟨k + 1, by omega, by go_num, by rw [HX.out]; exact own_keep HOW.out fun gg _ hlt _ => Below.heap_alloc _ _ _ hlt, to_ HBE.out (alloc_ _ _)⟩
        case measure => simp [intOf]; omega
    · obtain rfl : k = n := by omega
      obtain ⟨A3, c3, hv⟩ := own_form hown
      rw [HL.out] at hv hown
      subst hv
      have HOW := Lib.hid hown
      have HBE := Lib.hid hbel
      clear hown hbel
      go_wp2_with fail
      go_ret
      refine ⟨_, _, rfl, ?_, HBE.out⟩
      have h9 := SlV.of_own HOW.out
      exact h9
end Go.Proofs.Ythkbdclnnpcoiaa.By
