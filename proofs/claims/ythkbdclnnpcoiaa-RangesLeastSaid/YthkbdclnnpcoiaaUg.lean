/-
  WALKS of layer 14: what is live, what comes after; and the document's own.
-/
import Derived.Test.YthkbdclnnpcoiaaUf
import Derived.Test.YthkbdclnnpcoiaaGr
namespace Go.Proofs.Ythkbdclnnpcoiaa.By
open Go.RowKit
open Mem Gm Rf

theorem sum_le : ∀ (l : List Nat) (f : Nat → Nat) (b : Nat), (∀ x, x ∈ l → f x ≤ b) → (l.map f).sum ≤ l.length * b
  | [], _, _, _ => by simp
  | x :: l, f, b, h => by
    have h1 := h x (by simp)
    have h2 := sum_le l f b fun y hy => h y (by simp [hy])
    rw [List.map_cons, List.sum_cons, List.length_cons, Nat.add_mul]
    omega

theorem fuel_le {g : List (List Int)} {b : Nat} (k : Nat) (h : ∀ i, i < g.length → (rowOf g i).length ≤ b) : fuel g k ≤ k + g.length * b := by
  unfold fuel out
  have := sum_le (List.range g.length) (fun p => if ([] : List Nat).contains p then 0 else (g.getD p []).length) b fun x hx => by
    have h1 := h x (List.mem_range.1 hx)
    show (if ([] : List Nat).contains x then 0 else (g.getD x []).length) ≤ b
    split
    · omega
    · exact h1
  rw [List.length_range] at this
  omega

theorem gph_fuel (n : Nat) (O T : Nat → Int) (hn : n ≤ 1000) (k : Nat) (hk : k ≤ 10000) : fuel (gph n O T) k ≤ 1000000 := by
  have h := fuel_le (g := gph n O T) (b := 2) k fun i hi => by
    rw [gph_length] at hi
    rw [gph_row _ _ hi]; exact nxt_length ..
  rw [gph_length] at h
  omega

def RA (n : Nat) (g : List (List Int)) (fs : List Int) (w : World) (e : Ending) (w' : World) : Prop := ∃ A', e = .returned (.slice A' n n) ∧ SlV w' w'.heap.size (.slice A' n n) (reachV g fs) ∧ Below w.heap.size w w'

theorem preach (w : World) (A A2 : Option Addr) (n c c2 : Nat) (O T : Nat → Int) (fs : List Int) (hG : Gr w w.heap.size (.slice A n c) (gph n O T)) (hF : SlV w w.heap.size (.slice A2 fs.length c2) (ints fs)) (hn : n ≤ 1000) (hl : fs.length ≤ 10000) :
    Calls Try.prog 24 #[.slice A n c, .slice A2 fs.length c2] w (RA n (gph n O T) fs w) := by
  have h := reach_any A A2 c c2 w.heap.size (gph n O T) fs w (by rw [gph_length]; exact hG) hF (Nat.le_refl _) (by rw [gph_length]; exact hn) (gph_fuel n O T hn _ hl)
  rw [gph_length] at h
  exact h.mono fun e w' hh => by obtain ⟨A', h1, h2, h3, h4⟩ := hh; exact ⟨A', h1, h2, h3⟩

theorem rreach (w : World) (A A2 : Option Addr) (n c c2 : Nat) (O T : Nat → Int) (fs : List Int) (hG : Gr w w.heap.size (.slice A n c) (gph n O T)) (hF : SlV w w.heap.size (.slice A2 fs.length c2) (ints fs)) (hn : n ≤ 1000) (hl : fs.length ≤ 10000) :
    Calls Try.prog 21 #[.slice A n c, .slice A2 fs.length c2] w (RA n (gph n O T) fs w) := by
  have h := rreach_any w A A2 c c2 (gph n O T) fs (by rw [gph_length]; exact hG) hF (by rw [gph_length]; exact hn) (by omega)
  unfold ReachAns at h
  rw [gph_length] at h
  exact h

theorem one_in (W : World) (x : Int) : SlV (W.alloc (.cells #[.int .i64 x] 3)) (W.alloc (.cells #[.int .i64 x] 3)).heap.size (.slice (some ⟨W.heap.size, 0, none⟩) [x].length 1) (ints [x]) := by
  have h := SlV.new W (ints [x]) 3 (by unfold maxLen; simp [ints])
  rw [World.size_alloc]
  exact h

def GAn (n : Nat) (g : List (List Int)) (w : World) (e : Ending) (w' : World) : Prop := ∃ A c, e = .returned (.slice A n c) ∧ Gr w' w'.heap.size (.slice A n c) g ∧ Below w.heap.size w w'
theorem GAns.n {n : Nat} {O T : Nat → Int} {w w' : World} {e : Ending} (h : GAns w (gph n O T) e w') : GAn n (gph n O T) w e w' := by
  unfold GAns at h
  rw [gph_length] at h
  exact h

theorem alloc1 (w : World) (o : Obj) : Below w.heap.size w (w.alloc o) := (Below.refl _ w).alloc (Nat.le_refl _) o

theorem Rw.own {W : World} {base : Nat} {v : Value} {l : List Int} (h : Rw W base v l) : W.ownsRow base 3 1 v l.length (ints l) := by
  obtain ⟨A, c, rfl, ho⟩ := h
  exact ho

theorem ints_len (l : List Int) : (ints l).length = l.length := by simp [ints]
theorem ints_app (a b : List Int) : ints a ++ ints b = ints (a ++ b) := by simp [ints]
theorem ints_one (l : List Int) : ∀ y ∈ ints l, y.oneCell' = true := fun y hy => by
  obtain ⟨x, _, rfl⟩ := List.mem_map.1 hy; rfl

/-- What comes behind some places. -/
def behs (n : Nat) (O T : Nat → Int) (ms : List Int) : List Int := ms.flatMap (nxt n O T)
def behT (n : Nat) (O T : Nat → Int) (ms : List Int) (k : Nat) : List Int := behs n O T (ms.take k)
theorem behT_next (n : Nat) (O T : Nat → Int) {ms : List Int} {k : Nat} (h : k < ms.length) : behT n O T ms (k + 1) = behT n O T ms k ++ nxt n O T (el ms k) := by
  unfold behT behs
  rw [List.take_succ_eq_append_getElem h, List.flatMap_append, el_at h]
  simp
theorem behT_all (n : Nat) (O T : Nat → Int) (ms : List Int) : behT n O T ms ms.length = behs n O T ms := by
  unfold behT; rw [List.take_length]
theorem behs_length (n : Nat) (O T : Nat → Int) (ms : List Int) : (behs n O T ms).length ≤ 2 * ms.length := by
  unfold behs
  induction ms with
  | nil => simp
  | cons x l ih =>
    rw [List.flatMap_cons, List.length_append, List.length_cons]
    have := nxt_length n O T x
    omega
theorem behT_length (n : Nat) (O T : Nat → Int) (ms : List Int) (k : Nat) : (behT n O T ms k).length ≤ 2 * k := by
  have := behs_length n O T (ms.take k)
  have h2 : (ms.take k).length ≤ k := by rw [List.length_take]; omega
  unfold behT
  omega

set_option maxRecDepth 100000 in
set_option maxHeartbeats 2000000 in
theorem after_any (w : World) (A A2 : Option Addr) (n c c2 M : Nat) (O T : Nat → Int) (ms : List Int) (h : Cd w w.heap.size A n c O T) (hM : ms.length = M) (hm : SlV w w.heap.size (.slice A2 M c2) (ints ms)) (hn : n ≤ 1000) (hl : M ≤ 1000) :
    Calls Try.prog 19 #[.slice A n c, .slice A2 M c2] w (RA n (gph n O T) (behs n O T ms) w) := by
  obtain ⟨i0, hi, hz0, hz1, hz2⟩ := info_parts infoI
  have HC := Lib.hid (show ∀ W, Below w.heap.size w W → Cd W W.heap.size A n c O T from fun W hb => (h.below hb).more hb.size)
  have HG := Lib.hid (fun W (hc : Cd W W.heap.size A n c O T) => graph_any W A n c O T hc hn)
  have HN := Lib.hid (fun W (hc : Cd W W.heap.size A n c O T) (i : Int) => next_any W A n c O T hc i)
  have HR := Lib.hid (fun W A A2 c c2 fs hG hF hl => preach W A A2 n c c2 O T fs hG hF hn hl)
  have HE := Lib.hid (show ∀ j, j < M → ∃ ad, A2 = some ad ∧ ad.block < w.heap.size ∧ w.cell? (ad.add j) = some (.int .i64 (el ms j)) from fun j hj => by
    rw [← hM] at hm
    rcases ints_row hm with ⟨e, _⟩ | ⟨ad, e, hb, hc⟩
    · rw [e] at hM; simp at hM; omega
    · exact ⟨ad, e, hb, hc j (by omega)⟩)
  have HK := Lib.hid (show ∀ (p : Addr) (u : Value) (wr : World), Below w.heap.size w wr → w.cell? p = some u → wr.cell? p = some u from fun p u wr hb hc => (hb.cell (World.block_lt_of_cell? w _ hc)).trans hc)
  have HM := Lib.hid hM
  clear h hm hM
  go_enter Try.func19, Try.ntmps19
  go_wp2_with fail
  go_loopw [5, 10] (fun v i wr => ∃ k : Nat, k ≤ M ∧ i = .int .i64 (k : Int) ∧ wr.ownsRow w.heap.size 3 1 v (ints (behT n O T ms k)).length (ints (behT n O T ms k)) ∧ Below w.heap.size w wr) (fun _ i _ => M - (intOf i).toNat)
  case atStart => exact ⟨0, Nat.zero_le _, rfl, World.ownsRow_nil _ _ _ _, Below.refl _ _⟩
  case round =>
    obtain ⟨k, hk, rfl, hown, hbel⟩ := hrel
    by_cases hlt : k < M
    · have hkI : (k : Int) < (M : Int) := by omega
      obtain ⟨ad, rfl, _, hc⟩ := HE.out k hlt
      have hc := HK.out _ _ _ hbel hc
      have hx := behT_next n O T (ms := ms) (k := k) (by rw [HM.out]; exact hlt)
      have hlen := behT_length n O T ms k
      generalize el ms k = x at hc hx
      have hl2 := nxt_length n O T x
      have HX := Lib.hid hx
      have HL2 := Lib.hid hl2
      have HLEN := Lib.hid hlen
      have HOW := Lib.hid hown
      have HBE := Lib.hid hbel
      clear hown hbel hx hl2 hlen
      go_wp2_with (first
        | (go_at_call 23; refine (HN.out wr (HC.out wr HBE.out) x).mono ?_; rintro e w2 ⟨nv, rfl, hrw, hb2⟩; have HRW := Lib.hid hrw; have HB2 := Lib.hid hb2; obtain ⟨A3, c3, rfl, _⟩ := hrw; clear hb2)
        | (at_builtin; go_loud (refine wpList_append_slv _ rfl _ _ 22 rfl w.heap.size 3 i0 (.int .i64 0) 8 Try.underlying22 hi hz0 hz1 hz2 rfl _ _ rfl (own_keep HOW.out fun g _ hg _ => HB2.out.block g hg) w2.heap.size (.slice A3 (nxt n O T x).length c3) (ints (nxt n O T x)) rfl (SlV.of_own (HRW.out.own)) (ints_one _) (by have := HLEN.out; have := HL2.out; rw [ints_len, ints_len]; unfold maxLen; omega) (by have := HLEN.out; have := HL2.out; rw [ints_len, ints_len]; omega) (by have := HBE.out.size; have := HB2.out.size; omega) ?_; intro v' w4 h2 h3; have H2 := Lib.hid h2; have H3 := Lib.hid h3; clear h2 h3)))
      go_roundw
      case rel =>
        have hb2 : Below w.heap.size w w2 := HBE.out.trans (HB2.out.mono HBE.out.size)
        refine ⟨k + 1, by omega, by go_num, ?_, hb2.grown H3.out hb2.size fun r e => (HOW.out.lt r e).1⟩
        rw [HX.out]
        have h9 := H2.out
        rw [ints_app] at h9
        exact h9
      case measure => simp [intOf]; omega
    · obtain rfl : k = M := by omega
      obtain ⟨A3, c3, rfl⟩ := own_form hown
      have hall := behT_all n O T ms
      rw [HM.out] at hall
      have hlen := behT_length n O T ms k
      rw [hall] at hown hlen
      rw [ints_len] at hown
      have HLEN := Lib.hid hlen
      have HIL := Lib.hid (ints_len (behT n O T ms k))
      rw [hall] at HIL
      have HOW := Lib.hid hown
      have HBE := Lib.hid hbel
      rw [ints_len, hall]
      clear hown hbel hlen hall HIL
      go_wp2_with (first
        | (go_at_call 25; refine (HG.out wr (HC.out wr HBE.out)).mono ?_; rintro e w1 h1; obtain ⟨A1, c1, rfl, hg1, hb1⟩ := h1.n; have HG1 := Lib.hid hg1; have HB1 := Lib.hid hb1; clear hg1 hb1 h1)
        | (go_at_call 24; go_loud (refine (HR.out w1 A1 A3 c1 c3 (behs n O T ms) HG1.out (((SlV.of_own HOW.out).below HB1.out).more HB1.out.size) (by have := HLEN.out; omega)).mono ?_; rintro e w2 ⟨A4, rfl, hs2, hb2⟩; have HS2 := Lib.hid hs2; have HB2 := Lib.hid hb2; clear hs2 hb2)))
      go_ret
      exact ⟨_, rfl, HS2.out, (HBE.out.trans (HB1.out.mono HBE.out.size)).trans (HB2.out.mono (Nat.le_trans HBE.out.size HB1.out.size))⟩

set_option maxRecDepth 100000 in
set_option maxHeartbeats 2000000 in
theorem rafter_any (w : World) (A A2 : Option Addr) (n c c2 M : Nat) (O T : Nat → Int) (ms : List Int) (h : Cd w w.heap.size A n c O T) (hM : ms.length = M) (hm : SlV w w.heap.size (.slice A2 M c2) (ints ms)) (hn : n ≤ 1000) (hl : M ≤ 1000) :
    Calls Try.prog 17 #[.slice A n c, .slice A2 M c2] w (RA n (gph n O T) (behs n O T ms) w) := by
  obtain ⟨i0, hi, hz0, hz1, hz2⟩ := info_parts infoI
  have HC := Lib.hid (show ∀ W, Below w.heap.size w W → Cd W W.heap.size A n c O T from fun W hb => (h.below hb).more hb.size)
  have HG := Lib.hid (fun W (hc : Cd W W.heap.size A n c O T) => rgraph_any W A n c O T hc hn)
  have HN := Lib.hid (fun W (hc : Cd W W.heap.size A n c O T) (i : Int) => rnext_any W A n c O T hc i)
  have HR := Lib.hid (fun W A A2 c c2 fs hG hF hl => rreach W A A2 n c c2 O T fs hG hF hn hl)
  have HE := Lib.hid (show ∀ j, j < M → ∃ ad, A2 = some ad ∧ ad.block < w.heap.size ∧ w.cell? (ad.add j) = some (.int .i64 (el ms j)) from fun j hj => by
    rw [← hM] at hm
    rcases ints_row hm with ⟨e, _⟩ | ⟨ad, e, hb, hc⟩
    · rw [e] at hM; simp at hM; omega
    · exact ⟨ad, e, hb, hc j (by omega)⟩)
  have HK := Lib.hid (show ∀ (p : Addr) (u : Value) (wr : World), Below w.heap.size w wr → w.cell? p = some u → wr.cell? p = some u from fun p u wr hb hc => (hb.cell (World.block_lt_of_cell? w _ hc)).trans hc)
  have HM := Lib.hid hM
  clear h hm hM
  go_enter Try.func17, Try.ntmps17
  go_wp2_with fail
  go_loopw [5, 6] (fun v i wr => ∃ k : Nat, k ≤ M ∧ i = .int .i64 (k : Int) ∧ wr.ownsRow w.heap.size 3 1 v (ints (behT n O T ms k)).length (ints (behT n O T ms k)) ∧ Below w.heap.size w wr) (fun _ i _ => M - (intOf i).toNat)
  case atStart => exact ⟨0, Nat.zero_le _, rfl, World.ownsRow_nil _ _ _ _, Below.refl _ _⟩
  case round =>
    obtain ⟨k, hk, rfl, hown, hbel⟩ := hrel
    by_cases hlt : k < M
    · have hkI : (k : Int) < (M : Int) := by omega
      obtain ⟨ad, rfl, _, hc⟩ := HE.out k hlt
      have hc := HK.out _ _ _ hbel hc
      have hx := behT_next n O T (ms := ms) (k := k) (by rw [HM.out]; exact hlt)
      have hlen := behT_length n O T ms k
      generalize el ms k = x at hc hx
      have hl2 := nxt_length n O T x
      have HX := Lib.hid hx
      have HL2 := Lib.hid hl2
      have HLEN := Lib.hid hlen
      have HOW := Lib.hid hown
      have HBE := Lib.hid hbel
      clear hown hbel hx hl2 hlen
      go_wp2_with (first
        | (go_at_call 20; refine (HN.out wr (HC.out wr HBE.out) x).mono ?_; rintro e w2 ⟨nv, rfl, hrw, hb2⟩; have HRW := Lib.hid hrw; have HB2 := Lib.hid hb2; obtain ⟨A3, c3, rfl, _⟩ := hrw; clear hb2)
        | (at_builtin; go_loud (refine wpList_append_slv _ rfl _ _ 22 rfl w.heap.size 3 i0 (.int .i64 0) 8 Try.underlying22 hi hz0 hz1 hz2 rfl _ _ rfl (own_keep HOW.out fun g _ hg _ => HB2.out.block g hg) w2.heap.size (.slice A3 (nxt n O T x).length c3) (ints (nxt n O T x)) rfl (SlV.of_own (HRW.out.own)) (ints_one _) (by have := HLEN.out; have := HL2.out; rw [ints_len, ints_len]; unfold maxLen; omega) (by have := HLEN.out; have := HL2.out; rw [ints_len, ints_len]; omega) (by have := HBE.out.size; have := HB2.out.size; omega) ?_; intro v' w4 h2 h3; have H2 := Lib.hid h2; have H3 := Lib.hid h3; clear h2 h3)))
      go_roundw
      case rel =>
        have hb2 : Below w.heap.size w w2 := HBE.out.trans (HB2.out.mono HBE.out.size)
        refine ⟨k + 1, by omega, by go_num, ?_, hb2.grown H3.out hb2.size fun r e => (HOW.out.lt r e).1⟩
        rw [HX.out]
        have h9 := H2.out
        rw [ints_app] at h9
        exact h9
      case measure => simp [intOf]; omega
    · obtain rfl : k = M := by omega
      obtain ⟨A3, c3, rfl⟩ := own_form hown
      have hall := behT_all n O T ms
      rw [HM.out] at hall
      have hlen := behT_length n O T ms k
      rw [hall] at hown hlen
      rw [ints_len] at hown
      have HLEN := Lib.hid hlen
      have HIL := Lib.hid (ints_len (behT n O T ms k))
      rw [hall] at HIL
      have HOW := Lib.hid hown
      have HBE := Lib.hid hbel
      rw [ints_len, hall]
      clear hown hbel hlen hall HIL
      go_wp2_with (first
        | (go_at_call 22; refine (HG.out wr (HC.out wr HBE.out)).mono ?_; rintro e w1 h1; obtain ⟨A1, c1, rfl, hg1, hb1⟩ := h1.n; have HG1 := Lib.hid hg1; have HB1 := Lib.hid hb1; clear hg1 hb1 h1)
        | (go_at_call 21; go_loud (refine (HR.out w1 A1 A3 c1 c3 (behs n O T ms) HG1.out (((SlV.of_own HOW.out).below HB1.out).more HB1.out.size) (by have := HLEN.out; omega)).mono ?_; rintro e w2 ⟨A4, rfl, hs2, hb2⟩; have HS2 := Lib.hid hs2; have HB2 := Lib.hid hb2; clear hs2 hb2)))
      go_ret
      exact ⟨_, rfl, HS2.out, (HBE.out.trans (HB1.out.mono HBE.out.size)).trans (HB2.out.mono (Nat.le_trans HBE.out.size HB1.out.size))⟩

end Go.Proofs.Ythkbdclnnpcoiaa.By
