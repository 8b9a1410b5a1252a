/-
  WALK of layer 11: On. WALK of layer 11: On.
-/
import Derived.Test.YtlfgnoicjogfpaaCz
import Derived.Test.YtlfgnoicjogfpaaCs
namespace Go.Proofs.Ytlfgnoicjogfpaa.By
open Go.RowKit
open Mem Gm Rf Cy
attribute [local go_sem] Oper.semAt_some
set_option linter.unusedSimpArgs false

def adjM (g : List (List Int)) (ins : List Bool) (a : Nat) : List Nat := (List.range g.length).filter (RM g ins a)
def adjT (g : List (List Int)) (ins : List Bool) (a : Nat) : List Nat := (List.range g.length).filter fun b => RM g ins b a
theorem RM_lt {g : List (List Int)} {ins : List Bool} {a b : Nat} (h : RM g ins a b = true) : a < g.length ∧ b < g.length := by
  unfold RM at h
  rw [Bool.and_eq_true] at h
  have := E_iff.1 h.1
  exact ⟨this.1, this.2.1⟩
theorem EA_adjM (g : List (List Int)) (ins : List Bool) : EA (adjM g ins) = EM g ins := by
  funext a b
  refine propext ?_
  show b ∈ (List.range g.length).filter _ ↔ _
  rw [List.mem_filter, List.mem_range]
  exact ⟨fun h => ⟨(RM_lt h.2).1, h.1, h.2⟩, fun h => ⟨h.2.1, h.2.2⟩⟩
theorem two2_inn (g : List (List Int)) (ins : List Bool) (hN : g.length ≤ 500) : Two2 g.length (innG g ins) (adjM g ins) (adjT g ins) where
  len := by rw [innG, gr_length]
  row a ha := gr_rowOf ha
  row' a ha := by rw [turn_inn]; exact gr_rowOf ha
  fit a b h := by
    rw [EA_adjM] at h
    exact ⟨h.1, h.2.1⟩
  turns x y := by
    rw [EA_adjM]
    show y ∈ (List.range g.length).filter _ ↔ _
    rw [List.mem_filter, List.mem_range]
    exact ⟨fun h => ⟨h.1, (RM_lt h.2).2, h.2⟩, fun h => ⟨h.1, h.2.2⟩⟩
  le a := Nat.le_trans (List.length_filter_le _ _) (by rw [List.length_range]; omega)
  le' a := Nat.le_trans (List.length_filter_le _ _) (by rw [List.length_range]; omega)
  small := small_gr _ (by omega)

theorem contains_own (w : World) (base : Nat) (v : Value) (l : List Int) (x : Int) (h : w.ownsRow base 3 1 v l.length (ints l)) (hl : l.length ≤ 1000000) :
    Calls Try.prog 64 #[v, .int .i64 x] w fun e w' => e = .returned (.bool (l.contains x)) ∧ w = w' := by
  rcases h.2 with ⟨rfl, hn⟩ | ⟨g, cap, cur, rfl, hb, hg, hc, hm, hs, ht⟩
  · have : l = [] := List.eq_nil_of_length_eq_zero hn
    subst this
    refine (Try.slices_Contains_int_empty none 0 x w).mono ?_
    rintro e w' ⟨rfl, rfl⟩
    exact ⟨rfl, rfl⟩
  · have hsl := (SlV.of_own h).inv
    have := Try.slices_Contains_int g 0 l.length cap l x w (Nat.le_refl _) (by omega) (fun j hj => by
      rcases hsl with ⟨_, h0, _⟩ | ⟨ad, e, _, _, _, hr⟩
      · omega
      · injection e with e
        have h4 := (hr j (.int .i64 (l.getD j 0)) (by simp [ints, hj])).2
        rw [← e, add_plain] at h4
        exact h4)
    refine this.mono ?_
    rintro e w' ⟨rfl, rfl⟩
    rw [List.take_length]
    exact ⟨rfl, rfl⟩

theorem int_sorted {l : List Nat} {zs : List Int} (h : zs.Perm (l.map fun (n : Nat) => (n : Int))) : ∃ l' : List Nat, zs = l'.map (fun (n : Nat) => (n : Int)) ∧ l'.Perm l := by
  refine ⟨zs.map Int.toNat, ?_, ?_⟩
  · rw [List.map_map]
    have : ∀ z ∈ zs, ((fun (n : Nat) => (n : Int)) ∘ Int.toNat) z = z := fun z hz => by
      obtain ⟨n, _, rfl⟩ := List.mem_map.1 (h.mem_iff.1 hz)
      simp
    rw [List.map_congr_left this, List.map_id']
  · have := h.map Int.toNat
    rw [List.map_map] at this
    have e : l.map (Int.toNat ∘ fun (n : Nat) => (n : Int)) = l := by
      have : (Int.toNat ∘ fun (n : Nat) => (n : Int)) = fun (n : Nat) => n := funext fun n => by simp
      rw [this, List.map_id']
    rw [e] at this
    exact this

/-- All that counts, sorted, is what the document tells. -/
theorem on_right {g : List (List Int)} {ins : List Bool} {l : List Nat} (h : l.Nodup ∧ ∀ y, y ∈ l ↔ y < g.length ∧ Circ (EA (adjM g ins)) y) :
    (l.map (fun (n : Nat) => (n : Int))).mergeSort (fun x y => decide (x ≤ y)) = (ronL g.length ins (witG g ins) g.length).map (fun (n : Nat) => (n : Int)) := by
  obtain ⟨l', h1, h2⟩ := int_sorted (List.mergeSort_perm (l.map (fun (n : Nat) => (n : Int))) (fun x y => decide (x ≤ y)))
  rw [h1]
  congr 1
  have hs : (l.map (fun (n : Nat) => (n : Int))).mergeSort (fun x y => decide (x ≤ y)) |>.Pairwise (fun x y => decide (x ≤ y) = true) :=
    List.pairwise_mergeSort (fun a b c h1 h2 => by simp at h1 h2 ⊢; omega) (fun a b => by simp; omega) _
  rw [h1, List.pairwise_map] at hs
  have hnd : l'.Nodup := h2.nodup_iff.2 h.1
  refine risen_eq ?_ (ronL_sorted g ins) fun x => ?_
  · have : l'.Pairwise fun (a b : Nat) => a ≠ b ∧ decide ((a : Int) ≤ (b : Int)) = true := List.pairwise_and_iff.2 ⟨hnd, hs⟩
    exact this.imp fun {a b} h => by
      have h1 := h.1
      have h2 : (a : Int) ≤ (b : Int) := by simpa using h.2
      omega
  · rw [h2.mem_iff, h.2, EA_adjM, ronL_mem]
    exact ⟨fun h => h.2, fun h => ⟨(circ_member h).1, h⟩⟩
end Go.Proofs.Ytlfgnoicjogfpaa.By

namespace Go.Proofs.Ytlfgnoicjogfpaa.By
open Go.RowKit
open Mem Gm Rf Cy
attribute [local go_sem] Oper.semAt_some
set_option linter.unusedSimpArgs false

/-- What holds between two rounds of On. -/
structure OnI (w1 W0 : World) (rb base N : Nat) (G : List (List Int)) (adj : Nat → List Nat) (M : Nat) (pre : List (Value × List Nat)) (v : Value) (W : World) : Prop where
  box : Blk W (w1.heap.size + 1) 26 #[v]
  own : W.ownsRow M 3 1 v (onOf adj (pre.map (·.2))).length (nats (onOf adj (pre.map (·.2))))
  inner : Blk W w1.heap.size 22 #[.slice (some ⟨rb, 0, none⟩) N N]
  g : OwnG W rb base 26 3 G
  bel : Below w1.heap.size w1 W
  size : W0.heap.size ≤ W.heap.size

theorem OnI.keep {w1 W0 : World} {rb base N : Nat} {G : List (List Int)} {adj : Nat → List Nat} {M : Nat} {pre : List (Value × List Nat)} {v : Value} {W W' : World} (h : OnI w1 W0 rb base N G adj M pre v W) (h3 : W0.heap.size = w1.heap.size + 3) (hG : OwnG w1 rb base 26 3 G) (hk : Keeps (fun k => k < W0.heap.size ∨ M ≤ k) W W') : OnI w1 W0 rb base N G adj M pre v W' := by
  have hb : Below w1.heap.size w1 W' := h.bel.trans (hk.below (by have := h.size; omega) fun k hk => .inl (by omega))
  exact ⟨(hk.block _ (.inl (by omega)) h.box.lt).trans h.box, own_keep h.own fun g hg hlt _ => hk.block g (.inr hg) hlt, (hk.block _ (.inl (by omega)) h.inner.lt).trans h.inner,
    hG.keep fun g _ hlt => hb.block g hlt, hb, Nat.le_trans h.size hk.size⟩

theorem OnI.next {w1 W0 : World} {rb base N : Nat} {G : List (List Int)} {adj : Nat → List Nat} {M : Nat} {pre : List (Value × List Nat)} {x : Value × List Nat} {v v5 : Value} {W w5 : World} (h : OnI w1 W0 rb base N G adj M pre v W) (h3 : W0.heap.size = w1.heap.size + 3) (hM : W0.heap.size + 2 ≤ M) (hG : OwnG w1 rb base 26 3 G)
    (hc : counts adj x.2 = true) (ho : w5.ownsRow M 3 1 v5 ((onOf adj (pre.map (·.2))).length + x.2.length) (nats (onOf adj (pre.map (·.2))) ++ nats x.2)) (hg : W.drew.grownBy w5 v.ownBlock) :
    Keeps (fun k => (k < w1.heap.size ∨ k = w1.heap.size + 2 ∨ (W0.heap.size + 2 ≤ k ∧ k < M)) ∨ Two W0.heap.size k) W (w5.setCell ⟨w1.heap.size + 1, 0, none⟩ v5) ∧ OnI w1 W0 rb base N G adj M (pre ++ [x]) v5 (w5.setCell ⟨w1.heap.size + 1, 0, none⟩ v5) := by
  have hlo := h.own.lt
  have hk5 : Keeps (fun k => v.ownBlock ≠ some k) W w5 := ((Keeps.refl _ W).drew).grown hg fun r hr h => h hr
  have hk6 : Keeps (fun k => v.ownBlock ≠ some k ∧ k ≠ w1.heap.size + 1) W (w5.setCell ⟨w1.heap.size + 1, 0, none⟩ v5) := (hk5.mono fun k hk _ => hk.1).setCell (fun h => h.2 rfl) _
  have hlt : ∀ k, k < M → v.ownBlock ≠ some k := fun k hk e => by have := (hlo k e).1; omega
  have hsz := h.size
  have hb : Below w1.heap.size w1 (w5.setCell ⟨w1.heap.size + 1, 0, none⟩ v5) := h.bel.trans (hk6.below (by omega) fun k hk => ⟨hlt k (by omega), by omega⟩)
  have hbx : Blk w5 (w1.heap.size + 1) 26 #[v] := (hk5.block _ (hlt _ (by omega)) h.box.lt).trans h.box
  refine ⟨hk6.mono fun k hk _ => ⟨hlt k ?_, ?_⟩, hbx.stored 0 v5, ?_, (hk6.block _ ⟨hlt _ (by omega), by omega⟩ h.inner.lt).trans h.inner, hG.keep fun g _ hlt => hb.block g hlt, hb, Nat.le_trans h.size hk6.size⟩
  · unfold Two at hk; omega
  · unfold Two at hk; omega
  · have e : onOf adj ((pre ++ [x]).map (·.2)) = onOf adj (pre.map (·.2)) ++ x.2 := by
      rw [List.map_append, List.map_cons, List.map_nil, onOf_snoc, if_pos hc]
    rw [e, List.length_append, show ∀ (a b : List Nat), nats (a ++ b) = nats a ++ nats b from fun a b => by simp [nats]]
    exact own_keep ho fun g hg1 hg2 e => by
      have : g ≠ w1.heap.size + 1 := by omega
      simp only [World.setCell]
      exact Below.heap_setCell w5 ⟨w1.heap.size + 1, 0, none⟩ v5 g (fun h => this h)

theorem OnI.same {w1 W0 : World} {rb base N : Nat} {G : List (List Int)} {adj : Nat → List Nat} {M : Nat} {pre : List (Value × List Nat)} {x : Value × List Nat} {v : Value} {W : World} (h : OnI w1 W0 rb base N G adj M pre v W) (hc : counts adj x.2 = false) : OnI w1 W0 rb base N G adj M (pre ++ [x]) v W.drew := by
  have e : onOf adj ((pre ++ [x]).map (·.2)) = onOf adj (pre.map (·.2)) := by
    rw [List.map_append, List.map_cons, List.map_nil, onOf_snoc, if_neg (by rw [hc]; simp)]
  exact ⟨h.box, by rw [e]; exact own_keep h.own fun _ _ _ _ => rfl, h.inner, h.g.keep fun _ _ _ => rfl, h.bel.trans ⟨rfl, rfl, rfl, Nat.le_refl _, fun _ _ => rfl⟩, h.size⟩

theorem coe_has (l : List Nat) (x : Nat) : (coeL l).contains (x : Int) = l.contains x := by
  rw [Bool.eq_iff_iff, List.contains_iff_mem, List.contains_iff_mem, coeL, List.mem_map]
  constructor
  · rintro ⟨y, h, e⟩
    have : y = x := by omega
    exact this ▸ h
  · exact fun h => ⟨x, h, rfl⟩

set_option maxRecDepth 100000 in
set_option maxHeartbeats 4000000 in
theorem On_any (A A2 : Option Addr) (c c2 M B N : Nat) (g : List (List Int)) (ins : List Bool) (w : World) (hN : g.length = N) (hG : Gr w B (.slice A N c) g) (hM : ins.length = M) (hI : SlV w B (.slice A2 M c2) (bls ins)) (hB : B ≤ w.heap.size) (hs : Small g) (h5 : N ≤ 500) :
    Calls Try.prog 21 #[.slice A N c, .slice A2 M c2] w (NatAns (ronL N ins (witG g ins) N) w) := by
  obtain ⟨i0, hi, hz0, hz1, hz2⟩ := info_parts infoI
  have HW := Lib.hid (within_any A A2 c c2 M B g ins w (by rw [hN]; exact hG) hM hI hB hs)
  have H22 := Lib.hid (two2_inn g ins (by omega))
  have HRT := Lib.hid (fun l => on_right (g := g) (ins := ins) (l := l))
  rw [hN] at HW H22 HRT
  unfold InnAns at HW
  have HIL := Lib.hid (show (innG g ins).length = N by rw [innG, gr_length]; exact hN)
  generalize ronL N ins (witG g ins) N = R at HRT ⊢
  generalize innG g ins = G at HW H22 HIL
  generalize adjM g ins = adj at H22 HRT
  generalize adjT g ins = adj' at H22
  clear hG hI hs
  refine (callsIn_wide (n := 4)).1 ?_
  refine callsIn_of_wp_marks Try.func21 rfl trivial ?_ rfl
  simp only [Try.ntmps21, List.size_toArray, List.length_cons, List.length_nil, Nat.reduceAdd, Nat.reduceSub, Array.replicate_succ, Array.replicate_zero, List.push_toArray, List.append_toArray, List.nil_append, List.cons_append]
  gi_wp2_with (refine ⟨trivial, ?_⟩; gi_at_call 59; refine (callsIn_wide.2 HW.out).mono ?_; rintro e w1 ⟨rb, base, h1, h2, rfl, hown, hb⟩; have HO1 := Lib.hid hown; have HB1 := Lib.hid hb; have HRB := Lib.hid (And.intro h1 h2); clear h1 h2 hown hb HW)
  obtain ⟨WN, hWN⟩ : ∃ WN, (w1.alloc (.cells #[.slice (some ⟨rb, 0, none⟩) N N] 22)).alloc (.cells #[.slice none 0 0] 26) = WN := ⟨_, rfl⟩
  have hszN : WN.heap.size = w1.heap.size + 2 := by rw [← hWN]; simp
  have hbi : Blk WN w1.heap.size 22 #[.slice (some ⟨rb, 0, none⟩) N N] := by rw [← hWN]; exact (Blk.new w1 _ _).alloc _
  have hbo : Blk WN (w1.heap.size + 1) 26 #[.slice none 0 0] := by
    rw [← hWN]; have := Blk.new (w1.alloc (.cells #[.slice (some ⟨rb, 0, none⟩) N N] 22)) 26 #[.slice none 0 0]; rwa [World.size_alloc] at this
  have hbN : Below w1.heap.size w1 WN := by rw [← hWN]; exact ((Below.refl _ w1).alloc (Nat.le_refl _) _).alloc (by simp) _
  rw [hWN]
  clear hWN
  have HKN := Lib.hid (knots_any (some ⟨rb, 0, none⟩) N N WN)
  rw [hszN] at HKN
  refine ⟨trivial, ?_⟩
  gi_at_call 63
  refine (callsIn_wide.2 HKN.out).mono ?_
  rintro e w2 ⟨rfl, rfl⟩
  clear HKN
  obtain ⟨W0, hW0⟩ : ∃ W0, WN.alloc (.cells #[.slice (some ⟨rb, 0, none⟩) N N] 22) = W0 := ⟨_, rfl⟩
  have hsz0 : W0.heap.size = w1.heap.size + 3 := by rw [← hW0]; simp [hszN]
  have hbi0 : Blk W0 w1.heap.size 22 #[.slice (some ⟨rb, 0, none⟩) N N] := by rw [← hW0]; exact hbi.alloc _
  have hbo0 : Blk W0 (w1.heap.size + 1) 26 #[.slice none 0 0] := by rw [← hW0]; exact hbo.alloc _
  have hbk0 : W0.cell? ⟨w1.heap.size + 2, 0, none⟩ = some (.slice (some ⟨rb, 0, none⟩) N N) := by
    rw [← hW0]; have := (Blk.new WN 22 #[.slice (some ⟨rb, 0, none⟩) N N]).cell 0; rw [hszN] at this; simpa using this
  have hb0 : Below w1.heap.size w1 W0 := by rw [← hW0]; exact hbN.alloc (by omega) _
  rw [hW0]
  clear hW0 hbi hbo hbN hszN
  have HG1 := Lib.hid (show Gr w1 w1.heap.size (.slice (some ⟨rb, 0, none⟩) N N) G from by
    have := HO1.out.gr N (by rw [HIL.out]; exact Nat.le_refl _) (by unfold maxLen; omega)
    rwa [HIL.out] at this)
  have HT := Lib.hid (knots_tells 3 (by decide) (w1.heap.size + 2) w1.heap.size N N (some ⟨rb, 0, none⟩) G adj adj' W0 hbk0 (HG1.out.below hb0) (by omega) h5 H22.out)
  clear hbk0
  gi_wp2_with fail
  refine wpIn_rangeM rfl (by decide) (gf := 112) (lb := #[.pointer (some ⟨w1.heap.size + 2, 0, none⟩)]) rfl trivial (enters_of Try.func112 (by kernel_rfl) rfl) HT.out (Below.refl _ _) (fun _ => rfl)
    (fun M k => k < W0.heap.size ∨ M ≤ k) (fun M k hM h h' => by unfold Two at h; omega) (fun M k hM h => by omega) (fun M k hM h => by unfold Two at h; omega) (fun M h => by omega)
    (fun M pre W => ∃ v, OnI w1 W0 rb base N G adj M pre v W) (fun _ _ _ => False)
    (fun M s X Y _ ⟨v, h⟩ hk => ⟨v, h.keep hsz0 HO1.out hk⟩)
    (fun _ _ _ _ h _ _ => h)
    (fun M s X Y h hk hc => ⟨Nat.le_trans h.1 hk.size, fun x hx => by
      obtain ⟨⟨A6, c6, e6, h6⟩, h7⟩ := h.2 x hx
      exact ⟨⟨A6, c6, e6, (h6.keep fun p _ => hc p).more hk.size⟩, h7⟩⟩)
    (fun M hM => ⟨.slice none 0 0, hbo0, World.ownsRow_nil _ _ _ _, hbi0, HO1.out.keep fun g _ hlt => hb0.block g hlt, hb0, Nat.le_refl _⟩)
    (fun x => { tmps := #[.slice A N c, .slice A2 M c2, undef, undef, .slice none 0 0, .pointer (some ⟨w1.heap.size, 0, none⟩), .pointer (some ⟨w1.heap.size + 1, 0, none⟩), x.1, .slice A N c, .slice A2 M c2, .slice (some ⟨rb, 0, none⟩) N N, .slice (some ⟨rb, 0, none⟩) N N, .func (.func 112) #[] #[.pointer (some ⟨w1.heap.size + 2, 0, none⟩)], x.1, undef, undef, undef, undef, undef, undef,  undef, undef, undef, undef, undef, undef, undef, undef, undef, undef, undef, undef, undef, undef, undef], defers := [] }) ?assign ?body ?done ?stop
  case assign =>
    intro l x W K hK
    gi_wp2
    exact hK
  case body =>
    rintro l M pre ⟨kv, K⟩ W hM ⟨v, hI⟩ hOk hsz
    obtain ⟨⟨A6, c6, hkv, hsl⟩, hne, hbd, hlen, honl⟩ := hOk.2 (kv, K) (by simp)
    dsimp only at hkv hsl hne hbd hlen
    subst hkv
    obtain ⟨m, hm⟩ : ∃ m, K.length = m := ⟨_, rfl⟩
    rw [hm] at hsl hlen ⊢
    have HMM := Lib.hid hm
    obtain ⟨KV, hKV⟩ : ∃ KV, nats K = KV := ⟨_, rfl⟩
    have HKV := Lib.hid hKV
    have hKL : KV.length = K.length := by rw [← hKV]; simp [nats]
    have HKL := Lib.hid hKL
    have HSL := Lib.hid (show SlV W.drew W.heap.size (.slice A6 m c6) KV from by rw [← hKV]; exact hsl.keep fun _ _ => rfl)
    have HI := Lib.hid hI
    have HM := Lib.hid hM
    have hbox : W.drew.cell? ⟨w1.heap.size + 1, 0, none⟩ = some v := (hI.box.cell 0).trans rfl
    have HOW := Lib.hid (show W.drew.ownsRow M 3 1 v (onOf adj (pre.map (·.2))).length (nats (onOf adj (pre.map (·.2)))) from own_keep hI.own fun _ _ _ _ => rfl)
    have H1C := Lib.hid (show ∀ y ∈ KV, y.oneCell' = true from fun y hy => by
      rw [← hKV] at hy
      obtain ⟨z, _, rfl⟩ := List.mem_map.1 hy; rfl)
    have hpl : (onOf adj (pre.map (·.2))).length ≤ N := by
      have h1 := honl
      rw [List.map_append, List.map_cons, List.map_nil, onOf_snoc] at h1
      split at h1
      · rw [List.length_append] at h1; omega
      · exact h1
    have D1 := Lib.hid (show (onOf adj (pre.map (·.2))).length + KV.length ≤ maxLen by rw [hKL, hm]; unfold maxLen; omega)
    have D2 := Lib.hid (show ((onOf adj (pre.map (·.2))).length + KV.length) * 8 ≤ 140737488355328 by rw [hKL, hm]; omega)
    have hMs : M ≤ W.heap.size := hOk.1
    have DM := Lib.hid (show M ≤ W.drew.heap.size from hMs)
    clear hOk hI hpl honl hM hKV hKL
    by_cases h1m : 1 < m
    · have hI1 : (1 : Int) < (m : Int) := by omega
      have HCT := Lib.hid (show counts adj K = true from by unfold counts; rw [decide_eq_true (by omega : 1 < K.length)]; rfl)
      clear hsl hne hbd hlen hm hMs
      gi_wp2_with fail
      refine wpIn_region_round (S := fun _ => True) (by kernel_rfl) (by kernel_rfl) ?_
      have hHeld : True := trivial
      refine wpAnyH_take (i := 0) rfl (by kernel_rfl) (by kernel_rfl) (by kernel_rfl) (fun _ _ _ h => h) (Or.inl ⟨by rfl, by intro W hSW; (try dsimp only at hSW); go_simp; try (with_reducible rfl)⟩) hHeld ?_
      try simp only [Act.put, List.getElem_toArray, List.getElem_cons_zero, List.getElem_cons_succ, List.setIfInBounds_toArray, List.set_cons_zero, List.set_cons_succ]
      refine wpAnyH_take (i := 1) rfl (by kernel_rfl) (by kernel_rfl) (by kernel_rfl) (fun _ _ _ h => h) (Or.inl ⟨by rfl, by intro W hSW; (try dsimp only at hSW); go_simp; try (with_reducible rfl)⟩) hHeld ?_
      try simp only [Act.put, List.getElem_toArray, List.getElem_cons_zero, List.getElem_cons_succ, List.setIfInBounds_toArray, List.set_cons_zero, List.set_cons_succ]
      refine wpAnyH_take (i := 2) rfl (by kernel_rfl) (by kernel_rfl) (by kernel_rfl) (fun _ _ _ h => h) (Or.inl ⟨by rfl, by intro W hSW; (try dsimp only at hSW); go_simp; try (with_reducible rfl)⟩) hHeld ?_
      try simp only [Act.put, List.getElem_toArray, List.getElem_cons_zero, List.getElem_cons_succ, List.setIfInBounds_toArray, List.set_cons_zero, List.set_cons_succ]
      refine wpAnyH_take (i := 3) rfl (by kernel_rfl) (by kernel_rfl) (by kernel_rfl) (fun _ _ _ h => h) (Or.inl ⟨by rfl, by intro W hSW; (try dsimp only at hSW); go_simp; try (with_reducible rfl)⟩) hHeld ?_
      try simp only [Act.put, List.getElem_toArray, List.getElem_cons_zero, List.getElem_cons_succ, List.setIfInBounds_toArray, List.set_cons_zero, List.set_cons_succ]
      refine wpAnyH_take (i := 4) rfl (by kernel_rfl) (by kernel_rfl) (by kernel_rfl) (fun _ _ _ h => h) (Or.inr ⟨by rfl, rfl⟩) hHeld ?_
      try simp only [Act.put, List.getElem_toArray, List.getElem_cons_zero, List.getElem_cons_succ, List.setIfInBounds_toArray, List.set_cons_zero, List.set_cons_succ]
      refine wpAnyH_take (i := 5) rfl (by kernel_rfl) (by kernel_rfl) (by kernel_rfl) (fun _ _ _ h => h) (Or.inr ⟨by rfl, rfl⟩) hHeld ?_
      try simp only [Act.put, List.getElem_toArray, List.getElem_cons_zero, List.getElem_cons_succ, List.setIfInBounds_toArray, List.set_cons_zero, List.set_cons_succ]
      refine wpAnyH_take (i := 6) rfl (by kernel_rfl) (by kernel_rfl) (by kernel_rfl) (fun _ _ _ h => h) (Or.inr ⟨by rfl, rfl⟩) hHeld ?_
      try simp only [Act.put, List.getElem_toArray, List.getElem_cons_zero, List.getElem_cons_succ, List.setIfInBounds_toArray, List.set_cons_zero, List.set_cons_succ]
      refine wpAnyH_take (i := 7) rfl (by kernel_rfl) (by kernel_rfl) (by kernel_rfl) (fun _ _ _ h => h) (Or.inr ⟨by rfl, rfl⟩) hHeld ?_
      try simp only [Act.put, List.getElem_toArray, List.getElem_cons_zero, List.getElem_cons_succ, List.setIfInBounds_toArray, List.set_cons_zero, List.set_cons_succ]
      refine wpAnyH_take (i := 8) rfl (by kernel_rfl) (by kernel_rfl) (by kernel_rfl) (fun _ _ _ h => h) (Or.inr ⟨by rfl, rfl⟩) hHeld ?_
      try simp only [Act.put, List.getElem_toArray, List.getElem_cons_zero, List.getElem_cons_succ, List.setIfInBounds_toArray, List.set_cons_zero, List.set_cons_succ]
      refine wpAnyH_take (i := 9) rfl (by kernel_rfl) (by kernel_rfl) (by kernel_rfl) (fun _ _ _ h => h) (Or.inr ⟨by rfl, rfl⟩) hHeld ?_
      try simp only [Act.put, List.getElem_toArray, List.getElem_cons_zero, List.getElem_cons_succ, List.setIfInBounds_toArray, List.set_cons_zero, List.set_cons_succ]
      refine wpAnyH_take (i := 10) rfl (by kernel_rfl) (by kernel_rfl) (by kernel_rfl) (fun _ _ _ h => h) (Or.inr ⟨by rfl, rfl⟩) hHeld ?_
      try simp only [Act.put, List.getElem_toArray, List.getElem_cons_zero, List.getElem_cons_succ, List.setIfInBounds_toArray, List.set_cons_zero, List.set_cons_succ]
      refine wpAnyH_take (i := 11) rfl (by kernel_rfl) (by kernel_rfl) (by kernel_rfl) (fun _ _ _ h => h) (Or.inr ⟨by rfl, rfl⟩) hHeld ?_
      try simp only [Act.put, List.getElem_toArray, List.getElem_cons_zero, List.getElem_cons_succ, List.setIfInBounds_toArray, List.set_cons_zero, List.set_cons_succ]
      refine wpAnyH_take (i := 12) rfl (by kernel_rfl) (by kernel_rfl) (by kernel_rfl) (fun _ _ _ h => h) (Or.inr ⟨by rfl, rfl⟩) hHeld ?_
      try simp only [Act.put, List.getElem_toArray, List.getElem_cons_zero, List.getElem_cons_succ, List.setIfInBounds_toArray, List.set_cons_zero, List.set_cons_succ]
      refine wpAnyH_ready (rs := [13]) (by kernel_rfl) (by simp) ?_
      refine AllReadyH.cons rfl (fun K9 hK9 => ?_) AllReadyH.nil
      go_simp
      refine hK9.out _ _ hHeld ?_
      clear hK9 K9 hHeld
      intro hHeld
      try simp only [Act.put, List.getElem_toArray, List.getElem_cons_zero, List.getElem_cons_succ, List.setIfInBounds_toArray, List.set_cons_zero, List.set_cons_succ]
      refine wpAnyH_take (i := 14) rfl (by kernel_rfl) (by kernel_rfl) (by kernel_rfl) (fun _ _ _ h => h) (Or.inl ⟨by rfl, by intro W hSW; (try dsimp only at hSW); go_simp; try (with_reducible rfl)⟩) hHeld ?_
      try simp only [Act.put, List.getElem_toArray, List.getElem_cons_zero, List.getElem_cons_succ, List.setIfInBounds_toArray, List.set_cons_zero, List.set_cons_succ]
      refine wpAnyH_done (by kernel_rfl) ?_ _
      dsimp only [Only, Exit.then]
      gi_wp2_with (
        gi_at_builtin
        refine wpListIn_append_slv _ rfl (.tmp 29) (.tmp 30) 26 rfl M 3 i0 (.int .i64 0) 8 Try.underlying26 hi hz0 hz1 hz2 rfl v (onOf adj (pre.map (·.2))).length (nats (onOf adj (pre.map (·.2)))) rfl HOW.out _ (.slice A6 m c6) KV rfl HSL.out H1C.out D1.out D2.out DM.out ?_
        intro v5 w5 h5 h6 h7
        clear h7
        obtain ⟨A5, c5, hv5⟩ := (SlV.of_own h5).form
        have hfin := HI.out.next (x := (.slice A6 m c6, K)) hsz0 HM.out HO1.out HCT.out (show w5.ownsRow M 3 1 v5 ((onOf adj (pre.map (·.2))).length + K.length) (nats (onOf adj (pre.map (·.2))) ++ nats K) from by rw [HKV.out, ← HKL.out]; exact h5) h6
        have hbx5 : w5.cell? ⟨w1.heap.size + 1, 0, none⟩ = some v := by
          have hlo := HI.out.own.lt
          have hbx : Blk w5 (w1.heap.size + 1) 26 #[v] := (h6.block _ HI.out.box.lt (fun e => by have := (hlo _ e.symm).1; have := HM.out; omega)).trans HI.out.box
          rw [hbx.cell]; rfl
        have hfx5 : w5.frozen? ⟨w1.heap.size + 1, 0, none⟩ = false := by
          have hlo := HI.out.own.lt
          have hbx : Blk w5 (w1.heap.size + 1) 26 #[v] := (h6.block _ HI.out.box.lt (fun e => by have := (hlo _ e.symm).1; have := HM.out; omega)).trans HI.out.box
          exact hbx.frozen 0
        have HFIN := Lib.hid hfin
        clear hfin h5 h6
        generalize (nats (onOf adj (pre.map (·.2))) ++ KV).length = q5 at hv5
        subst hv5)
      gi_wp2
      exact ⟨HFIN.out.1, _, HFIN.out.2⟩
    · have hm1 : m = 1 := by
        have : K.length ≠ 0 := fun h => hne (List.eq_nil_of_length_eq_zero h)
        omega
      subst hm1
      obtain ⟨k0, rfl⟩ : ∃ k0, K = [k0] := List.length_eq_one_iff.1 HMM.out
      have hkN : k0 < N := hbd k0 (by simp)
      obtain ⟨rv, hcr, -, -, hor, ⟨A', c', hrv⟩, -⟩ := HI.out.g.at_ HRB.out.2 (a := k0) (by rw [HIL.out]; exact hkN)
      subst hrv
      obtain ⟨ad, rfl, hck⟩ : ∃ ad, A6 = some ad ∧ W.drew.cell? (ad.add 0) = some (.int .i64 (k0 : Int)) := by
        rcases HSL.out.inv with ⟨_, h0, _⟩ | ⟨ad, e, _, _, _, hr⟩
        · omega
        · exact ⟨ad, e, (hr 0 _ (by rw [← HKV.out]; rfl)).2⟩
      have hck0 : W.drew.cell? ad = some (.int .i64 (k0 : Int)) := hck
      have hrow : rowOf G k0 = coeL (adj k0) := H22.out.row k0 hkN
      have HCN := Lib.hid (contains_own W.drew base (.slice A' (rowOf G k0).length c') (rowOf G k0) k0 (own_keep hor fun _ _ _ _ => rfl) (by rw [hrow, coeL, List.length_map]; have := H22.out.le k0; omega))
      obtain ⟨rl, hrl⟩ : ∃ rl, (rowOf G k0).length = rl := ⟨_, rfl⟩
      obtain ⟨b, hb⟩ : ∃ b, (rowOf G k0).contains (k0 : Int) = b := ⟨_, rfl⟩
      have HCT := Lib.hid (show counts adj [k0] = b from by
        rw [hrow, coe_has] at hb
        unfold counts
        simp only [List.length_singleton, Nat.lt_irrefl, decide_false, Bool.false_or, List.headD_cons]
        exact hb)
      rw [hrl, hb] at HCN
      rw [hrl] at hcr
      have hin : W.drew.cell? ⟨w1.heap.size, 0, none⟩ = some (.slice (some ⟨rb, 0, none⟩) N N) := (HI.out.inner.cell 0).trans rfl
      have hkI : (k0 : Int) < (N : Int) := by omega
      have hHeld : W.drew.cell? ⟨w1.heap.size, 0, none⟩ = some (.slice (some ⟨rb, 0, none⟩) N N) ∧ W.drew.cell? (ad.add 0) = some (.int .i64 (k0 : Int)) ∧ W.drew.cell? ad = some (.int .i64 (k0 : Int)) ∧ W.drew.cell? ⟨rb, k0, none⟩ = some (.slice A' rl c') := ⟨hin, hck, hck0, hcr⟩
      clear hsl hne hbd hlen hm hMs hcr hck hck0 hin hrow hrl hb hor h1m
      gi_wp2_with fail
      refine wpIn_region_round (S := fun W' => W'.cell? ⟨w1.heap.size, 0, none⟩ = some (.slice (some ⟨rb, 0, none⟩) N N) ∧ W'.cell? (ad.add 0) = some (.int .i64 (k0 : Int)) ∧ W'.cell? ad = some (.int .i64 (k0 : Int)) ∧ W'.cell? ⟨rb, k0, none⟩ = some (.slice A' rl c')) (by kernel_rfl) (by kernel_rfl) ?_
      refine wpAnyH_take (i := 0) rfl (by kernel_rfl) (by kernel_rfl) (by kernel_rfl) (fun _ _ _ h => h) (Or.inl ⟨by rfl, by intro W hSW; (try dsimp only at hSW); go_simp; try (with_reducible rfl)⟩) hHeld ?_
      try simp only [Act.put, List.getElem_toArray, List.getElem_cons_zero, List.getElem_cons_succ, List.setIfInBounds_toArray, List.set_cons_zero, List.set_cons_succ]
      refine wpAnyH_take (i := 1) rfl (by kernel_rfl) (by kernel_rfl) (by kernel_rfl) (fun _ _ _ h => h) (Or.inl ⟨by rfl, by intro W hSW; (try dsimp only at hSW); go_simp; try (with_reducible rfl)⟩) hHeld ?_
      try simp only [Act.put, List.getElem_toArray, List.getElem_cons_zero, List.getElem_cons_succ, List.setIfInBounds_toArray, List.set_cons_zero, List.set_cons_succ]
      refine wpAnyH_take (i := 2) rfl (by kernel_rfl) (by kernel_rfl) (by kernel_rfl) (fun _ _ _ h => h) (Or.inl ⟨by rfl, by intro W hSW; (try dsimp only at hSW); go_simp; try (with_reducible rfl)⟩) hHeld ?_
      try simp only [Act.put, List.getElem_toArray, List.getElem_cons_zero, List.getElem_cons_succ, List.setIfInBounds_toArray, List.set_cons_zero, List.set_cons_succ]
      refine wpAnyH_take (i := 3) rfl (by kernel_rfl) (by kernel_rfl) (by kernel_rfl) (fun _ _ _ h => h) (Or.inl ⟨by rfl, by intro W hSW; (try dsimp only at hSW); go_simp; try (with_reducible rfl)⟩) hHeld ?_
      try simp only [Act.put, List.getElem_toArray, List.getElem_cons_zero, List.getElem_cons_succ, List.setIfInBounds_toArray, List.set_cons_zero, List.set_cons_succ]
      refine wpAnyH_take (i := 4) rfl (by kernel_rfl) (by kernel_rfl) (by kernel_rfl) (fun _ _ _ h => h) (Or.inl ⟨by rfl, by intro W hSW; (try dsimp only at hSW); go_simp; try (with_reducible rfl)⟩) hHeld ?_
      try simp only [Act.put, List.getElem_toArray, List.getElem_cons_zero, List.getElem_cons_succ, List.setIfInBounds_toArray, List.set_cons_zero, List.set_cons_succ]
      refine wpAnyH_take (i := 5) rfl (by kernel_rfl) (by kernel_rfl) (by kernel_rfl) (fun _ _ _ h => h) (Or.inl ⟨by rfl, by intro W hSW; (try dsimp only at hSW); go_simp; try (with_reducible rfl)⟩) hHeld ?_
      try simp only [Act.put, List.getElem_toArray, List.getElem_cons_zero, List.getElem_cons_succ, List.setIfInBounds_toArray, List.set_cons_zero, List.set_cons_succ]
      refine wpAnyH_take (i := 6) rfl (by kernel_rfl) (by kernel_rfl) (by kernel_rfl) (fun _ _ _ h => h) (Or.inl ⟨by rfl, by intro W hSW; (try dsimp only at hSW); go_simp; try (with_reducible rfl)⟩) hHeld ?_
      try simp only [Act.put, List.getElem_toArray, List.getElem_cons_zero, List.getElem_cons_succ, List.setIfInBounds_toArray, List.set_cons_zero, List.set_cons_succ]
      refine wpAnyH_take (i := 7) rfl (by kernel_rfl) (by kernel_rfl) (by kernel_rfl) (fun _ _ _ h => h) (Or.inl ⟨by rfl, by intro W hSW; (try dsimp only at hSW); go_simp; try (with_reducible rfl)⟩) hHeld ?_
      try simp only [Act.put, List.getElem_toArray, List.getElem_cons_zero, List.getElem_cons_succ, List.setIfInBounds_toArray, List.set_cons_zero, List.set_cons_succ]
      refine wpAnyH_take (i := 8) rfl (by kernel_rfl) (by kernel_rfl) (by kernel_rfl) (fun _ _ _ h => h) (Or.inl ⟨by rfl, by intro W hSW; (try dsimp only at hSW); go_simp; try (with_reducible rfl)⟩) hHeld ?_
      try simp only [Act.put, List.getElem_toArray, List.getElem_cons_zero, List.getElem_cons_succ, List.setIfInBounds_toArray, List.set_cons_zero, List.set_cons_succ]
      refine wpAnyH_take (i := 9) rfl (by kernel_rfl) (by kernel_rfl) (by kernel_rfl) (fun _ _ _ h => h) (Or.inl ⟨by rfl, by intro W hSW; (try dsimp only at hSW); go_simp; try (with_reducible rfl)⟩) hHeld ?_
      try simp only [Act.put, List.getElem_toArray, List.getElem_cons_zero, List.getElem_cons_succ, List.setIfInBounds_toArray, List.set_cons_zero, List.set_cons_succ]
      refine wpAnyH_take (i := 10) rfl (by kernel_rfl) (by kernel_rfl) (by kernel_rfl) (fun _ _ _ h => h) (Or.inl ⟨by rfl, by intro W hSW; (try dsimp only at hSW); go_simp; try (with_reducible rfl)⟩) hHeld ?_
      try simp only [Act.put, List.getElem_toArray, List.getElem_cons_zero, List.getElem_cons_succ, List.setIfInBounds_toArray, List.set_cons_zero, List.set_cons_succ]
      refine wpAnyH_take (i := 11) rfl (by kernel_rfl) (by kernel_rfl) (by kernel_rfl) (fun _ _ _ h => h) (Or.inl ⟨by rfl, by intro W hSW; (try dsimp only at hSW); go_simp; try (with_reducible rfl)⟩) hHeld ?_
      try simp only [Act.put, List.getElem_toArray, List.getElem_cons_zero, List.getElem_cons_succ, List.setIfInBounds_toArray, List.set_cons_zero, List.set_cons_succ]
      refine wpAnyH_take (i := 12) rfl (by kernel_rfl) (by kernel_rfl) (by kernel_rfl) (fun _ _ _ h => h) (Or.inl ⟨by rfl, by intro W hSW; (try dsimp only at hSW); go_simp; try (with_reducible rfl)⟩) hHeld ?_
      try simp only [Act.put, List.getElem_toArray, List.getElem_cons_zero, List.getElem_cons_succ, List.setIfInBounds_toArray, List.set_cons_zero, List.set_cons_succ]
      refine wpAnyH_ready (rs := [13]) (by kernel_rfl) (by simp) ?_
      refine AllReadyH.cons rfl (fun K9 hK9 => ?_) AllReadyH.nil
      go_simp
      refine HCN.out.mono ?_
      rintro e w9 ⟨rfl, rfl⟩
      try go_wp2_with fail
      refine hK9.out _ _ hHeld ?_
      clear hK9 K9 hHeld
      intro hHeld
      try simp only [Act.put, List.getElem_toArray, List.getElem_cons_zero, List.getElem_cons_succ, List.setIfInBounds_toArray, List.set_cons_zero, List.set_cons_succ]
      refine wpAnyH_take (i := 14) rfl (by kernel_rfl) (by kernel_rfl) (by kernel_rfl) (fun _ _ _ h => h) (Or.inl ⟨by rfl, by intro W hSW; (try dsimp only at hSW); go_simp; try (with_reducible rfl)⟩) hHeld ?_
      try simp only [Act.put, List.getElem_toArray, List.getElem_cons_zero, List.getElem_cons_succ, List.setIfInBounds_toArray, List.set_cons_zero, List.set_cons_succ]
      refine wpAnyH_done (by kernel_rfl) ?_ _
      dsimp only [Only, Exit.then]
      clear hHeld
      cases b with
      | false =>
        gi_wp2
        exact ⟨(Keeps.refl _ W).drew, v, HI.out.same (x := (.slice (some ad) 1 c6, [k0])) HCT.out⟩
      | true =>
        gi_wp2_with (
          gi_at_builtin
          refine wpListIn_append_slv _ rfl (.tmp 29) (.tmp 30) 26 rfl M 3 i0 (.int .i64 0) 8 Try.underlying26 hi hz0 hz1 hz2 rfl v (onOf adj (pre.map (·.2))).length (nats (onOf adj (pre.map (·.2)))) rfl HOW.out _ (.slice (some ad) 1 c6) KV rfl HSL.out H1C.out D1.out D2.out DM.out ?_
          intro v5 w5 h5 h6 h7
          clear h7
          obtain ⟨A5, c5, hv5⟩ := (SlV.of_own h5).form
          have hfin := HI.out.next (x := (.slice (some ad) 1 c6, [k0])) hsz0 HM.out HO1.out HCT.out (show w5.ownsRow M 3 1 v5 ((onOf adj (pre.map (·.2))).length + [k0].length) (nats (onOf adj (pre.map (·.2))) ++ nats [k0]) from by rw [HKV.out, ← HKL.out]; exact h5) h6
          have hbx5 : w5.cell? ⟨w1.heap.size + 1, 0, none⟩ = some v := by
            have hlo := HI.out.own.lt
            have hbx : Blk w5 (w1.heap.size + 1) 26 #[v] := (h6.block _ HI.out.box.lt (fun e => by have := (hlo _ e.symm).1; have := HM.out; omega)).trans HI.out.box
            rw [hbx.cell]; rfl
          have hfx5 : w5.frozen? ⟨w1.heap.size + 1, 0, none⟩ = false := by
            have hlo := HI.out.own.lt
            have hbx : Blk w5 (w1.heap.size + 1) 26 #[v] := (h6.block _ HI.out.box.lt (fun e => by have := (hlo _ e.symm).1; have := HM.out; omega)).trans HI.out.box
            exact hbx.frozen 0
          have HFIN := Lib.hid hfin
          clear hfin h5 h6
          generalize (nats (onOf adj (pre.map (·.2))) ++ KV).length = q5 at hv5
          subst hv5)
        gi_wp2
        exact ⟨HFIN.out.1, _, HFIN.out.2⟩
  case done =>
    rintro M xs W hM hend ⟨v, hI⟩ hD
    have hlo := hI.own.lt
    have hfew : (onOf adj (xs.map (·.2))).length ≤ N := nodup_len _ _ hend.1 fun y hy => ((hend.2 y).1 hy).1
    have hown := hI.own
    rw [nats_ints] at hown
    have hso := sort_own W M v ((onOf adj (xs.map (·.2))).map fun (n : Nat) => (n : Int)) (by rw [List.length_map]; exact hown) (by rw [List.length_map]; omega)
    rw [HRT.out _ hend, List.length_map, ← nats_ints] at hso
    have HSO := Lib.hid hso
    have hcb : W.cell? ⟨w1.heap.size + 1, 0, none⟩ = some v := (hI.box.cell 0).trans rfl
    have HI := Lib.hid hI
    have HLO := Lib.hid hlo
    have HD := Lib.hid hD
    have HM := Lib.hid hM
    clear hso hI hlo hown hend hfew hD hM
    gi_wp2_with fail
    refine ⟨trivial, ?_⟩
    gi_at_call 65
    refine (callsIn_wide.2 HSO.out).mono ?_
    rintro e w5 ⟨rfl, ho5, hg5⟩
    have hcb5 : w5.cell? ⟨w1.heap.size + 1, 0, none⟩ = some v := by
      have hbx : Blk w5 (w1.heap.size + 1) 26 #[v] := (hg5.block _ HI.out.box.lt (fun e => by have := (HLO.out _ e.symm).1; have := HM.out; omega)).trans HI.out.box
      rw [hbx.cell]; rfl
    have hD5 : w5.heap[W0.heap.size]? = some (.deferred (some [])) := (hg5.block _ (by have := (Array.getElem?_eq_some_iff.1 HD.out).1; exact this) (fun e => by have := (HLO.out _ e.symm).1; have := HM.out; omega)).trans HD.out
    have hform : ∃ A5 c5, v = .slice A5 R.length c5 := by
      obtain ⟨A5, c5, h5⟩ := (SlV.of_own ho5).form
      rw [show (nats R).length = R.length by simp [nats]] at h5
      exact ⟨A5, c5, h5⟩
    obtain ⟨A5, c5, rfl⟩ := hform
    have HSL := Lib.hid (SlV.of_own ho5)
    have HBE := Lib.hid (show Below w.heap.size w w5 from by
      refine (HB1.out.trans (HI.out.bel.mono HB1.out.size)).grown hg5 (Nat.le_trans HB1.out.size HI.out.bel.size) fun r e => ?_
      have h1 := (HLO.out r e).1
      have h2 := HM.out
      have h3 := HB1.out.size
      omega)
    rw [hsz0] at hD5
    have HD5 := Lib.hid hD5
    clear ho5 hg5 hD5 hcb
    gi_wp2
    refine ⟨by simp, .inl ⟨_, _, rfl, run_takeDeferred HD5.out, ?_⟩⟩
    refine ⟨_, results_tmp rfl _ _ _, A5, c5, rfl, ?_, ?_⟩
    · exact (HSL.out.keep fun p _ => cell_putDef HD5.out p).more (show w5.heap.size ≤ (w5.putObj (w1.heap.size + 3) (.deferred none)).heap.size from by simp)
    · exact HBE.out.trans ⟨rfl, rfl, rfl, by simp, fun k hk => World.putObj_heap_other (by have := HB1.out.size; omega)⟩
  case stop =>
    rintro ch pre W h _
    exact h.elim
end Go.Proofs.Ytlfgnoicjogfpaa.By
