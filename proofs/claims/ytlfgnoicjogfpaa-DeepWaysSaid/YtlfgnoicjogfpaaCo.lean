/-
  WALK of layer 11: from: the places behind one, as they are left.
-/
import Derived.Test.YtlfgnoicjogfpaaCn
import Derived.Deep.LoopGhost
import Derived.Deep.AppendLies
namespace Go.Proofs.Ytlfgnoicjogfpaa.By
open Go.RowKit
open Mem Gm Rf Cy
set_option linter.unusedSimpArgs false

theorem TrM.step {w : World} {B tb bb eb N : Nat} {Ag : Option Addr} {cg : Nat} {gL : List (List Int)} {been : Nat → Bool} {ed : Nat → Nat} (h : TrM w B tb bb eb N Ag cg gL been ed) (p : Nat) : TrM (w.setCell ⟨eb, p, none⟩ (.int .i64 ((ed p : Int) + 1))) B tb bb eb N Ag cg gL been (updE ed p) where
  blk := (((Keeps.refl (fun k => k ≠ eb) w).setCell (p := ⟨eb, p, none⟩) (fun h => h rfl) (.int .i64 ((ed p : Int) + 1))).block tb h.tb_eb h.blk.lt).trans h.blk
  bk := (((Keeps.refl (fun k => k ≠ eb) w).setCell (p := ⟨eb, p, none⟩) (fun h => h rfl) (.int .i64 ((ed p : Int) + 1))).block bb h.bb_eb h.bk.lt).trans h.bk
  ek := by
    have := h.ek.stored p (.int .i64 ((ed p : Int) + 1))
    rw [arrN_set] at this
    have e : (fun j => if j = p then Value.int .i64 ((ed p : Int) + 1) else .int .i64 (ed j : Int)) = fun i => .int .i64 (updE ed p i : Int) := funext fun j => by
      by_cases hj : j = p
      · subst hj; simp [updE]
      · simp [updE, hj]
    rw [e] at this; exact this
  gr := h.gr.below (((Below.refl B w)).setCell h.leb _)
  tb_bb := h.tb_bb
  tb_eb := h.tb_eb
  bb_eb := h.bb_eb
  ltb := h.ltb
  lbb := h.lbb
  leb := h.leb

theorem own_less {w : World} {base g cap : Nat} {p : Nat} {t : List Nat} (h : w.ownsRow base 3 1 (.slice (some ⟨g, 0, none⟩) (t.length + 1) cap) (t.length + 1) (nats (p :: t).reverse)) : w.ownsRow base 3 1 (.slice (some ⟨g, 0, none⟩) t.length cap) t.length (nats t.reverse) := by
  rcases h.2 with ⟨h2, _⟩ | ⟨g', cap', cur, hv, h3, h4, h5, h6, h7, h8⟩
  · cases h2
  · injection hv with hv1 _ hv3
    injection hv1 with hv1
    injection hv1 with hv1
    subst hv1 hv3
    refine ⟨by simp [nats], .inr ⟨g, cap, cur, rfl, h3, h4, by omega, h6, h7, ?_⟩⟩
    have : (cur.toList.take ((t.length + 1) * 1)).take (t.length * 1) = cur.toList.take (t.length * 1) := by rw [List.take_take]; congr 1; omega
    rw [← this, h8]
    simp [nats]

theorem own_top {w : World} {base g cap : Nat} {p : Nat} {t : List Nat} (h : w.ownsRow base 3 1 (.slice (some ⟨g, 0, none⟩) (t.length + 1) cap) (t.length + 1) (nats (p :: t).reverse)) : w.cell? ⟨g, t.length, none⟩ = some (.int .i64 (p : Int)) := by
  rcases (SlV.of_own h).inv with ⟨h1, _⟩ | ⟨ad, e, _, _, _, hr⟩
  · cases h1
  · injection e with e
    have := (hr t.length (.int .i64 (p : Int)) (by simp [nats])).2
    rw [← e, add_plain, Nat.zero_add] at this
    exact this

/-- What enter answers to a trail that is under way. -/
def EntG (w : World) (B tb bb eb N : Nat) (Ag : Option Addr) (cg : Nat) (gL : List (List Int)) (adj : Nat → List Nat) (ed : Nat → Nat) (L : List Nat) (s : Nat) (left : List Nat) (base : Nat) (v : Value) (len : Nat) (e : Ending) (w' : World) : Prop :=
  ∃ v' been' st', e = .returned v' ∧ Going N adj L s been' ed st' left ∧ TrM w' B tb bb eb N Ag cg gL been' ed ∧ w'.ownsRow base 3 1 v' st'.length (nats st'.reverse) ∧ st'.length ≤ len + 1 ∧ (v'.ownBlock = v.ownBlock ∨ ∃ k, v'.ownBlock = some k ∧ w.heap.size ≤ k) ∧ Keeps (fun k => k ≠ bb ∧ v.ownBlock ≠ some k) w w'

theorem ent_start (w : World) (B tb bb eb N : Nat) (Ag : Option Addr) (cg : Nat) (gL : List (List Int)) (adj : Nat → List Nat) (been : Nat → Bool) (ed : Nat → Nat) (L : List Nat) (s : Nat) (h : TrM w B tb bb eb N Ag cg gL been ed) (hR : Cy.Rest N adj been ed L) (hs : s < N) :
    Calls Try.prog 145 #[.pointer (some ⟨tb, 0, none⟩), .slice none 0 0, .int .i64 (s : Int)] w (EntG w B tb bb eb N Ag cg gL adj ed L s [] w.heap.size (.slice none 0 0) 0) := by
  have hnil : w.ownsRow w.heap.size 3 1 (.slice none 0 0) 0 (nats ([] : List Nat).reverse) := ⟨rfl, .inl ⟨rfl, rfl⟩⟩
  have hlt := And.intro h.blk.lt (And.intro h.bk.lt (And.intro h.ek.lt h.ltb))
  cases hb : been s with
  | true =>
    refine (enter_old w B tb bb eb N Ag cg gL been ed h (.slice none 0 0) s hs hb).mono ?_
    rintro e w' ⟨rfl, rfl⟩
    exact ⟨_, been, [], rfl, hR.old hb, h, hnil, by simp, .inl rfl, Keeps.refl _ _⟩
  | false =>
    refine (enter_new w B tb bb eb N Ag cg gL been ed h w.heap.size (.slice none 0 0) [] hnil ⟨by omega, by omega, by omega, by omega, by omega⟩ (by simp) s hs hb).mono ?_
    rintro e w' ⟨v', rfl, ho, ht, hl, hk⟩
    exact ⟨v', _, [s], rfl, hR.new hb hs, ht, ho, by simp, hl, hk⟩

theorem ent_round (w : World) (B tb bb eb N : Nat) (Ag : Option Addr) (cg : Nat) (gL : List (List Int)) (adj : Nat → List Nat) (been : Nat → Bool) (ed : Nat → Nat) (L : List Nat) (s p y : Nat) (t left : List Nat) (base : Nat) (v : Value) (h : TrM w B tb bb eb N Ag cg gL been (updE ed p)) (hG : Going N adj L s been ed (p :: t) left)
    (hp : ed p < (adj p).length) (hy : (adj p)[ed p]? = some y) (hyN : y < N) (ho : w.ownsRow base 3 1 v (p :: t).length (nats (p :: t).reverse)) (hb : tb < base ∧ bb < base ∧ eb < base ∧ B ≤ base ∧ base ≤ w.heap.size) (hl : (p :: t).length ≤ 1000) :
    Calls Try.prog 145 #[.pointer (some ⟨tb, 0, none⟩), v, .int .i64 (y : Int)] w (EntG w B tb bb eb N Ag cg gL adj (updE ed p) L s left base v (p :: t).length) := by
  cases hbe : been y with
  | true =>
    refine (enter_old w B tb bb eb N Ag cg gL been _ h v y hyN hbe).mono ?_
    rintro e w' ⟨rfl, rfl⟩
    exact ⟨_, been, p :: t, rfl, hG.stay hp hy hbe, h, ho, by omega, .inl rfl, Keeps.refl _ _⟩
  | false =>
    refine (enter_new w B tb bb eb N Ag cg gL been _ h base v (p :: t) ho hb hl y hyN hbe).mono ?_
    rintro e w' ⟨v', rfl, ho', ht, hl', hk⟩
    exact ⟨v', _, y :: p :: t, rfl, hG.enter hyN hp hy hbe, ht, ho', by simp, hl', hk⟩

/-- A trail under way, in memory. -/
structure FrSt (w : World) (B tb bb eb N : Nat) (Ag : Option Addr) (cg : Nat) (gL : List (List Int)) (adj : Nat → List Nat) (L : List Nat) (s k : Nat) (lv ev : Value) (been : Nat → Bool) (ed : Nat → Nat) (st left : List Nat) (wr : World) : Prop where
  num : 2 * todo N adj ed + st.length ≤ k
  going : Going N adj L s been ed st left
  tr : TrM wr B tb bb eb N Ag cg gL been ed
  lo : wr.ownsRow w.heap.size 3 1 lv left.length (nats left)
  eo : wr.ownsRow w.heap.size 3 1 ev st.length (nats st.reverse)
  apart : ∀ b, lv.ownBlock = some b → ev.ownBlock ≠ some b
  keeps : Keeps (fun b => b ≠ bb ∧ b ≠ eb ∧ b < w.heap.size) w wr

def FrAns (w : World) (B tb bb eb N : Nat) (Ag : Option Addr) (cg : Nat) (gL : List (List Int)) (adj : Nat → List Nat) (L : List Nat) (s : Nat) (e : Ending) (w' : World) : Prop :=
  ∃ v been ed left, e = .returned v ∧ Going N adj L s been ed [] left ∧ TrM w' B tb bb eb N Ag cg gL been ed ∧ w'.ownsRow w.heap.size 3 1 v left.length (nats left) ∧ Keeps (fun b => b ≠ bb ∧ b ≠ eb ∧ b < w.heap.size) w w'

set_option maxRecDepth 100000 in
set_option maxHeartbeats 4000000 in
theorem from_any (w : World) (B tb bb eb N : Nat) (Ag : Option Addr) (cg : Nat) (gL : List (List Int)) (adj : Nat → List Nat) (been : Nat → Bool) (ed : Nat → Nat) (L : List Nat) (s : Nat) (h : TrM w B tb bb eb N Ag cg gL been ed) (hR : Cy.Rest N adj been ed L) (hs : s < N)
    (hgl : gL.length = N) (hrow : ∀ a, a < N → rowOf gL a = coeL (adj a)) (hadj : ∀ a b, b ∈ adj a → b < N) (hN : N ≤ 500) (hle : ∀ a, (adj a).length ≤ 1000) :
    Calls Try.prog 114 #[.pointer (some ⟨tb, 0, none⟩), .int .i64 (s : Int)] w (FrAns w B tb bb eb N Ag cg gL adj L s) := by
  have HE := Lib.hid (ent_start w B tb bb eb N Ag cg gL adj been ed L s h hR hs)
  have HB := Lib.hid (show tb < w.heap.size ∧ bb < w.heap.size ∧ eb < w.heap.size ∧ B ≤ w.heap.size from ⟨h.blk.lt, h.bk.lt, h.ek.lt, Nat.le_trans h.ltb (Nat.le_of_lt h.blk.lt)⟩)
  have HRW := Lib.hid hrow
  have HAD := Lib.hid hadj
  have HLE := Lib.hid hle
  have HGL := Lib.hid hgl
  obtain ⟨i0, hi, hz0, hz1, hz2⟩ := info_parts infoI
  clear h hR hrow hadj hle hgl
  go_enter Try.func114, Try.ntmps114
  go_wp2_with fail
  refine HE.out.mono ?_
  rintro e w1 ⟨v, been1, st1, rfl, hg, ht, ho, hl, _, hk⟩
  have hF : FrSt w B tb bb eb N Ag cg gL adj L s (2 * todo N adj ed + st1.length) (.slice none 0 0) v been1 ed st1 [] w1 := ⟨Nat.le_refl _, hg, ht, ⟨rfl, .inl ⟨rfl, rfl⟩⟩, ho, (fun b hb => by cases hb), hk.mono fun k hk _ => ⟨hk.1, fun h => by cases h⟩⟩
  have HF := Lib.hid hF
  clear hg ht ho hl hk hF HE
  go_wp2_with fail
  go_loopg [5, 6] (2 * todo N adj ed + st1.length) (fun k lv ev wr => ∃ been' ed' st left, Hid (FrSt w B tb bb eb N Ag cg gL adj L s k lv ev been' ed' st left wr))
  case atStart => exact ⟨been1, ed, st1, [], HF⟩
  case round =>
    obtain ⟨been', ed', st, left, HF'⟩ := hrel
    have HSZ := Lib.hid (show w.heap.size ≤ wr.heap.size from HF'.out.keeps.size)
    cases st with
    | nil =>
      have hev := (SlV.of_own HF'.out.eo).form
      obtain ⟨A9, c9, rfl⟩ := hev
      simp only [List.reverse_nil, nats, List.map_nil, List.length_nil] at *
      go_wp2_with fail
      go_ret
      exact ⟨_, been', ed', left, rfl, HF'.out.going, HF'.out.tr, HF'.out.lo, HF'.out.keeps⟩
    | cons p t =>
      have hp : p < N := HF'.out.going.bound p (by simp)
      obtain ⟨g, cap, hev, hgb, hgl⟩ := HF'.out.eo.form (by simp)
      subst hev
      have ht5 : t.length ≤ 500 := by
        have h1 := HF'.out.going.nodup
        have h2 := HF'.out.going.bound
        have h3 : ((p :: t) ++ (L ++ left)).length ≤ N := by
          exact nodup_len _ _ h1 h2
        simp at h3; omega
      have hce := own_top HF'.out.eo
      have c2 : wr.cell? ⟨tb, 2, none⟩ = some (.slice (some ⟨eb, 0, none⟩) N N) := by rw [HF'.out.tr.blk.cell]; rfl
      have c0 : wr.cell? ⟨tb, 0, none⟩ = some (.slice Ag N cg) := by rw [HF'.out.tr.blk.cell]; rfl
      have ce : wr.cell? ⟨eb, p, none⟩ = some (.int .i64 (ed' p : Int)) := by rw [HF'.out.tr.ek.cell, arrN_at _ hp]
      have fe : wr.frozen? ⟨eb, p, none⟩ = false := HF'.out.tr.ek.frozen p
      have HGR := HF'.out.tr.gr
      rw [← HGL.out] at HGR
      obtain ⟨ad, c9, hAe, _, _, hbad, hrows⟩ := HGR.rows (by rw [HGL.out]; omega)
      injection hAe with hA3 _ hC9
      obtain ⟨A', c', hrw, hrsl⟩ := hrows p (by rw [HGL.out]; exact hp)
      have hrl : (rowOf gL p).length = (adj p).length := by rw [HRW.out p hp, coeL, List.length_map]
      rw [hrl] at hrw hrsl
      rw [HRW.out p hp] at hrsl
      obtain ⟨dl, hdl⟩ : ∃ dl, (adj p).length = dl := ⟨_, rfl⟩
      rw [hdl] at hrw hrsl
      have HDL := Lib.hid hdl
      have HRS := Lib.hid hrsl
      have hd5 : dl ≤ 1000 := hdl ▸ HLE.out p
      have hel : ed' p ≤ dl := hdl ▸ HF'.out.going.edle p
      obtain ⟨ep, hep⟩ : ∃ ep, ed' p = ep := ⟨_, rfl⟩
      rw [hep] at ce hel
      have HEP := Lib.hid hep
      have hpI : (p : Int) < (N : Int) := by omega
      have hp0 : (0 : Int) ≤ (p : Int) := by omega
      have hwr : IntKind.i64.wrap ((t.length : Int) + 1 - 1) = (t.length : Int) := by rw [show (t.length : Int) + 1 - 1 = (t.length : Int) by omega]; exact IntWalk.i64_in _ ⟨by omega, by omega⟩
      have htI : (0 : Int) < (t.length : Int) + 1 := by omega
      have hcap : t.length + 1 ≤ cap := by
        rcases HF'.out.eo.2 with ⟨h2, _⟩ | ⟨g', cap', cur, hv, _, _, h5, _⟩
        · cases h2
        · injection hv with _ _ hv3
          rw [hv3]; exact h5
      have hcapI : (t.length : Int) ≤ (cap : Int) := by omega
      have ht0 : (0 : Int) ≤ (t.length : Int) := by omega
      clear HGR hrows hrsl hrl hdl hep 
      by_cases hlt : ep < dl
      · have hltI : (ep : Int) < (dl : Int) := by omega
        have hep0 : (0 : Int) ≤ (ep : Int) := by omega
        have hw1 : IntKind.i64.wrap ((ep : Int) + 1) = (ep : Int) + 1 := IntWalk.i64_in _ ⟨by omega, by omega⟩
        have hw3 : IntKind.i64.wrap (ep : Int) = (ep : Int) := IntWalk.i64_in _ ⟨by omega, by omega⟩
        have hw2 : IntKind.i64.wrap ((ep : Int) + 1 - 1) = (ep : Int) := by rw [show (ep : Int) + 1 - 1 = (ep : Int) by omega]; exact IntWalk.i64_in _ ⟨by omega, by omega⟩
        obtain ⟨y, hy⟩ : ∃ y, (adj p)[ep]? = some y := ⟨_, List.getElem?_eq_getElem (by rw [HDL.out]; exact hlt)⟩
        have hyN : y < N := HAD.out p y (List.mem_of_getElem? hy)
        obtain ⟨ad2, hA2, hcy, hcb⟩ : ∃ ad2, A' = some ad2 ∧ wr.cell? (ad2.add ep) = some (.int .i64 (y : Int)) ∧ (ad2.add ep).block < B := by
          rcases HRS.out.inv with ⟨_, h0, _⟩ | ⟨ad2, hA2, _, _, _, hr2⟩
          · omega
          · have := hr2 ep (.int .i64 (y : Int)) (by simp [ints, coeL, hy])
            exact ⟨ad2, hA2, this.2, by rw [add_block]; exact this.1⟩
        subst hA2
        have hT1 : TrM (wr.setCell ⟨eb, p, none⟩ (.int .i64 ((ep : Int) + 1))) B tb bb eb N Ag cg gL been' (updE ed' p) := by
          have := HF'.out.tr.step p; rw [HEP.out] at this; exact this
        have hkS : Keeps (fun k => k ≠ eb) wr (wr.setCell ⟨eb, p, none⟩ (.int .i64 ((ep : Int) + 1))) := (Keeps.refl _ wr).setCell (fun h => h rfl) _
        have hlbb := HF'.out.tr.lbb
        have hleb := HF'.out.tr.leb
        have hapb : (ad.add p).block < B := by rw [add_block]; exact hbad
        have d2 : (wr.setCell ⟨eb, p, none⟩ (.int .i64 ((ep : Int) + 1))).drew.drew.cell? ⟨tb, 2, none⟩ = some (.slice (some ⟨eb, 0, none⟩) N N) := (hT1.blk.cell 2).trans rfl
        have d0 : (wr.setCell ⟨eb, p, none⟩ (.int .i64 ((ep : Int) + 1))).drew.drew.cell? ⟨tb, 0, none⟩ = some (.slice Ag N cg) := (hT1.blk.cell 0).trans rfl
        have d1 : (wr.setCell ⟨eb, p, none⟩ (.int .i64 ((ep : Int) + 1))).drew.drew.cell? ⟨eb, p, none⟩ = some (.int .i64 ((ep : Int) + 1)) := (hT1.ek.cell p).trans (by rw [arrN_at _ hp]; simp [updE, HEP.out])
        have d3 : (wr.setCell ⟨eb, p, none⟩ (.int .i64 ((ep : Int) + 1))).drew.drew.cell? (ad.add p) = some (.slice (some ad2) dl c') := hkS.cell (by omega) hrw
        have d4 : (wr.setCell ⟨eb, p, none⟩ (.int .i64 ((ep : Int) + 1))).drew.drew.cell? (ad2.add ep) = some (.int .i64 (y : Int)) := hkS.cell (by omega) hcy
        have hT2 : TrM (wr.setCell ⟨eb, p, none⟩ (.int .i64 ((ep : Int) + 1))).drew.drew B tb bb eb N Ag cg gL been' (updE ed' p) := hT1.keep (U := fun _ => True) (Keeps.refl _ _).drew.drew (Nat.le_trans HB.out.2.2.2 (Nat.le_trans HSZ.out hkS.size)) fun _ _ => trivial
        have ho9 := own_keep (w' := (wr.setCell ⟨eb, p, none⟩ (.int .i64 ((ep : Int) + 1))).drew.drew) HF'.out.eo fun b hb1 hb2 _ => hkS.block b (by have := HB.out; omega) hb2
        have HEN := Lib.hid (ent_round _ B tb bb eb N Ag cg gL adj been' ed' L s p y t left w.heap.size (.slice (some ⟨g, 0, none⟩) (t.length + 1) cap) hT2 HF'.out.going (by rw [HDL.out, HEP.out]; exact hlt) (by rw [HEP.out]; exact hy) hyN ho9 ⟨HB.out.1, HB.out.2.1, HB.out.2.2.1, HB.out.2.2.2, Nat.le_trans HSZ.out hkS.size⟩ (by simp; omega))
        unfold EntG at HEN
        have hfarB : ∀ k, k < B → k ≠ bb ∧ (Value.slice (some ⟨g, 0, none⟩) (t.length + 1) cap).ownBlock ≠ some k := fun k hk => ⟨by omega, fun h => by
          have h9 : g = k := by injection h
          have := HB.out; omega⟩
        have HKS := Lib.hid hkS
        have HFB := Lib.hid hfarB
        have HCB := Lib.hid (And.intro hapb hcb)
        have HD := Lib.hid (And.intro d2 (And.intro d0 (And.intro d1 (And.intro d3 d4))))
        have HY := Lib.hid hyN
        clear hT1 hT2 hkS ho9 hfarB hapb hcb hy hlbb hleb d2 d0 d1 d3 d4 hyN
        go_wp2_with fail
        go_region
        go_wp2_with fail
        refine wp_region_noPanic ?_
        refine wp_region_held_drew (S := fun W' => W'.cell? ⟨tb, 2, none⟩ = some (.slice (some ⟨eb, 0, none⟩) N N) ∧ W'.cell? ⟨tb, 0, none⟩ = some (.slice Ag N cg) ∧ W'.cell? ⟨eb, p, none⟩ = some (.int .i64 ((ep : Int) + 1)) ∧ W'.cell? (ad.add p) = some (.slice (some ad2) dl c') ∧ W'.cell? (ad2.add ep) = some (.int .i64 (y : Int))) (by kernel_rfl) (HD.out) (fun hHeld => ?_)
        refine wpAnyH_take (i := 0) rfl (by kernel_rfl) (by kernel_rfl) (by kernel_rfl) (fun _ _ _ h => h) (Or.inl ⟨by rfl, by intro W hSW; (try dsimp only at hSW); go_simp; try (with_reducible rfl)⟩) hHeld ?_
        try simp only [Act.put, List.getElem_toArray, List.getElem_cons_zero, List.getElem_cons_succ, List.setIfInBounds_toArray, List.set_cons_zero, List.set_cons_succ]
        refine wpAnyH_take (i := 1) rfl (by kernel_rfl) (by kernel_rfl) (by kernel_rfl) (fun _ _ _ h => h) (Or.inl ⟨by rfl, by intro W hSW; (try dsimp only at hSW); go_simp; try (with_reducible rfl)⟩) hHeld ?_
        try simp only [Act.put, List.getElem_toArray, List.getElem_cons_zero, List.getElem_cons_succ, List.setIfInBounds_toArray, List.set_cons_zero, List.set_cons_succ]
        refine wpAnyH_take (i := 2) rfl (by kernel_rfl) (by kernel_rfl) (by kernel_rfl) (fun _ _ _ h => h) (Or.inl ⟨by rfl, by intro W hSW; (try dsimp only at hSW); go_simp; try (with_reducible rfl)⟩) hHeld ?_
        try simp only [Act.put, List.getElem_toArray, List.getElem_cons_zero, List.getElem_cons_succ, List.setIfInBounds_toArray, List.set_cons_zero, List.set_cons_succ]
        refine wpAnyH_take (i := 3) rfl (by kernel_rfl) (by kernel_rfl) (by kernel_rfl) (fun _ _ _ h => h) (Or.inl ⟨by rfl, by intro W hSW; (try dsimp only at hSW); go_simp; try (with_reducible rfl)⟩) hHeld ?_
        try simp only [Act.put, List.getElem_toArray, List.getElem_cons_zero, List.getElem_cons_succ, List.setIfInBounds_toArray, List.set_cons_zero, List.set_cons_succ]
        refine wpAnyH_take (i := 4) rfl (by kernel_rfl) (by kernel_rfl) (by kernel_rfl) (fun _ _ _ h => h) (Or.inl ⟨by rfl, by intro W hSW; (try dsimp only at hSW); go_simp; try (with_reducible rfl)⟩) hHeld ?_
        try simp only [Act.put, List.getElem_toArray, List.getElem_cons_zero, List.getElem_cons_succ, List.setIfInBounds_toArray, List.set_cons_zero, List.set_cons_succ]
        refine wpAnyH_take (i := 5) rfl (by kernel_rfl) (by kernel_rfl) (by kernel_rfl) (fun _ _ _ h => h) (Or.inl ⟨by rfl, by intro W hSW; (try dsimp only at hSW); go_simp; try (with_reducible rfl)⟩) hHeld ?_
        try simp only [Act.put, List.getElem_toArray, List.getElem_cons_zero, List.getElem_cons_succ, List.setIfInBounds_toArray, List.set_cons_zero, List.set_cons_succ]
        refine wpAnyH_take (i := 6) rfl (by kernel_rfl) (by kernel_rfl) (by kernel_rfl) (fun _ _ _ h => h) (Or.inl ⟨by rfl, by intro W hSW; (try dsimp only at hSW); go_simp; try (with_reducible rfl)⟩) hHeld ?_
        try simp only [Act.put, List.getElem_toArray, List.getElem_cons_zero, List.getElem_cons_succ, List.setIfInBounds_toArray, List.set_cons_zero, List.set_cons_succ]
        refine wpAnyH_take (i := 7) rfl (by kernel_rfl) (by kernel_rfl) (by kernel_rfl) (fun _ _ _ h => h) (Or.inl ⟨by rfl, by intro W hSW; (try dsimp only at hSW); go_simp; try (with_reducible rfl)⟩) hHeld ?_
        try simp only [Act.put, List.getElem_toArray, List.getElem_cons_zero, List.getElem_cons_succ, List.setIfInBounds_toArray, List.set_cons_zero, List.set_cons_succ]
        refine wpAnyH_take (i := 8) rfl (by kernel_rfl) (by kernel_rfl) (by kernel_rfl) (fun _ _ _ h => h) (Or.inl ⟨by rfl, by intro W hSW; (try dsimp only at hSW); go_simp; try (with_reducible rfl)⟩) hHeld ?_
        try simp only [Act.put, List.getElem_toArray, List.getElem_cons_zero, List.getElem_cons_succ, List.setIfInBounds_toArray, List.set_cons_zero, List.set_cons_succ]
        refine wpAnyH_take (i := 9) rfl (by kernel_rfl) (by kernel_rfl) (by kernel_rfl) (fun _ _ _ h => h) (Or.inl ⟨by rfl, by intro W hSW; (try dsimp only at hSW); go_simp; try (with_reducible rfl)⟩) hHeld ?_
        try simp only [Act.put, List.getElem_toArray, List.getElem_cons_zero, List.getElem_cons_succ, List.setIfInBounds_toArray, List.set_cons_zero, List.set_cons_succ]
        refine wpAnyH_take (i := 10) rfl (by kernel_rfl) (by kernel_rfl) (by kernel_rfl) (fun _ _ _ h => h) (Or.inl ⟨by rfl, by intro W hSW; (try dsimp only at hSW); go_simp; try (with_reducible rfl)⟩) hHeld ?_
        try simp only [Act.put, List.getElem_toArray, List.getElem_cons_zero, List.getElem_cons_succ, List.setIfInBounds_toArray, List.set_cons_zero, List.set_cons_succ]
        refine wpAnyH_take (i := 11) rfl (by kernel_rfl) (by kernel_rfl) (by kernel_rfl) (fun _ _ _ h => h) (Or.inl ⟨by rfl, by intro W hSW; (try dsimp only at hSW); go_simp; try (with_reducible rfl)⟩) hHeld ?_
        try simp only [Act.put, List.getElem_toArray, List.getElem_cons_zero, List.getElem_cons_succ, List.setIfInBounds_toArray, List.set_cons_zero, List.set_cons_succ]
        refine wpAnyH_take (i := 12) rfl (by kernel_rfl) (by kernel_rfl) (by kernel_rfl) (fun _ _ _ h => h) (Or.inl ⟨by rfl, by intro W hSW; (try dsimp only at hSW); go_simp; try (with_reducible rfl)⟩) hHeld ?_
        try simp only [Act.put, List.getElem_toArray, List.getElem_cons_zero, List.getElem_cons_succ, List.setIfInBounds_toArray, List.set_cons_zero, List.set_cons_succ]
        refine wpAnyH_take (i := 13) rfl (by kernel_rfl) (by kernel_rfl) (by kernel_rfl) (fun _ _ _ h => h) (Or.inl ⟨by rfl, by intro W hSW; (try dsimp only at hSW); go_simp; try (with_reducible rfl)⟩) hHeld ?_
        try simp only [Act.put, List.getElem_toArray, List.getElem_cons_zero, List.getElem_cons_succ, List.setIfInBounds_toArray, List.set_cons_zero, List.set_cons_succ]
        refine wpAnyH_take (i := 14) rfl (by kernel_rfl) (by kernel_rfl) (by kernel_rfl) (fun _ _ _ h => h) (Or.inl ⟨by rfl, by intro W hSW; (try dsimp only at hSW); go_simp; try (with_reducible rfl)⟩) hHeld ?_
        try simp only [Act.put, List.getElem_toArray, List.getElem_cons_zero, List.getElem_cons_succ, List.setIfInBounds_toArray, List.set_cons_zero, List.set_cons_succ]
        refine wpAnyH_take (i := 15) rfl (by kernel_rfl) (by kernel_rfl) (by kernel_rfl) (fun _ _ _ h => h) (Or.inl ⟨by rfl, by intro W hSW; (try dsimp only at hSW); go_simp; try (with_reducible rfl)⟩) hHeld ?_
        try simp only [Act.put, List.getElem_toArray, List.getElem_cons_zero, List.getElem_cons_succ, List.setIfInBounds_toArray, List.set_cons_zero, List.set_cons_succ]
        refine wpAnyH_take (i := 16) rfl (by kernel_rfl) (by kernel_rfl) (by kernel_rfl) (fun _ _ _ h => h) (Or.inl ⟨by rfl, by intro W hSW; (try dsimp only at hSW); go_simp; try (with_reducible rfl)⟩) hHeld ?_
        try simp only [Act.put, List.getElem_toArray, List.getElem_cons_zero, List.getElem_cons_succ, List.setIfInBounds_toArray, List.set_cons_zero, List.set_cons_succ]
        refine wpAnyH_take (i := 17) rfl (by kernel_rfl) (by kernel_rfl) (by kernel_rfl) (fun _ _ _ h => h) (Or.inl ⟨by rfl, by intro W hSW; (try dsimp only at hSW); go_simp; try (with_reducible rfl)⟩) hHeld ?_
        try simp only [Act.put, List.getElem_toArray, List.getElem_cons_zero, List.getElem_cons_succ, List.setIfInBounds_toArray, List.set_cons_zero, List.set_cons_succ]
        refine wpAnyH_take (i := 18) rfl (by kernel_rfl) (by kernel_rfl) (by kernel_rfl) (fun _ _ _ h => h) (Or.inl ⟨by rfl, by intro W hSW; (try dsimp only at hSW); go_simp; try (with_reducible rfl)⟩) hHeld ?_
        try simp only [Act.put, List.getElem_toArray, List.getElem_cons_zero, List.getElem_cons_succ, List.setIfInBounds_toArray, List.set_cons_zero, List.set_cons_succ]
        refine wpAnyH_ready (rs := [19]) (by kernel_rfl) (by simp) ?_
        refine AllReadyH.cons rfl (fun K hK => ?_) AllReadyH.nil
        go_simp
        refine HEN.out.mono ?_
        rintro e w4 ⟨v4, been4, st4, rfl, hg4, ht4, ho4, hl4, hat4, hk4⟩
        have HG4 := Lib.hid hg4
        have HT4 := Lib.hid ht4
        have HO4 := Lib.hid ho4
        have HL4 := Lib.hid hl4
        have HAT4 := Lib.hid hat4
        have HK4 := Lib.hid hk4
        clear hg4 ht4 ho4 hl4 hat4 hk4
        try go_wp2_with fail
        refine hK.out _ _ (⟨(HT4.out.blk.cell 2).trans rfl, (HT4.out.blk.cell 0).trans rfl, (HT4.out.ek.cell p).trans (by rw [arrN_at _ hp]; simp [updE, HEP.out]), HK4.out.cell (HFB.out _ HCB.out.1) HD.out.2.2.2.1, HK4.out.cell (HFB.out _ HCB.out.2) HD.out.2.2.2.2⟩) ?_
        clear hK K hHeld
        intro hHeld
        try simp only [Act.put, List.getElem_toArray, List.getElem_cons_zero, List.getElem_cons_succ, List.setIfInBounds_toArray, List.set_cons_zero, List.set_cons_succ]
        refine wpAnyH_take (i := 20) rfl (by kernel_rfl) (by kernel_rfl) (by kernel_rfl) (fun _ _ _ h => h) (Or.inl ⟨by rfl, by intro W hSW; (try dsimp only at hSW); go_simp; try (with_reducible rfl)⟩) hHeld ?_
        try simp only [Act.put, List.getElem_toArray, List.getElem_cons_zero, List.getElem_cons_succ, List.setIfInBounds_toArray, List.set_cons_zero, List.set_cons_succ]
        refine wpAnyH_done (by kernel_rfl) ?_ _
        refine NoPanic.normal ?_
        have hkk : Keeps (fun k => k ≠ eb ∧ k ≠ bb ∧ (Value.slice (some ⟨g, 0, none⟩) (t.length + 1) cap).ownBlock ≠ some k) wr w4 := ((HKS.out.drew.drew).mono fun k hk _ => hk.1).trans (HK4.out.mono fun k hk _ => hk.2)
        have hlo := HF'.out.lo.lt
        have hap := HF'.out.apart
        have hF2 : FrSt w B tb bb eb N Ag cg gL adj L s (2 * todo N adj (updE ed' p) + st4.length) u5 v4 been4 (updE ed' p) st4 left w4 := by
          refine ⟨Nat.le_refl _, HG4.out, HT4.out, ?_, HO4.out, ?_, ?_⟩
          · exact own_keep HF'.out.lo fun b hb1 hb2 e => hkk.block b ⟨by have := HB.out; omega, by have := HB.out; omega, hap b e⟩ hb2
          · intro b hb e
            have h1 := hlo b hb
            rcases HAT4.out with h | ⟨k, h, hk⟩
            · exact hap b hb (h ▸ e)
            · rw [h] at e
              have h2 : k = b := by injection e
              have h3 : wr.heap.size ≤ k := Nat.le_trans HKS.out.size hk
              omega
          · exact HF'.out.keeps.trans (hkk.mono fun k hk _ => ⟨hk.2.1, hk.1, fun h => by
              have h1 : g = k := by injection h
              omega⟩)
        have HF2 := Lib.hid hF2
        have hnum : 2 * todo N adj (updE ed' p) + st4.length < gk := by
          have h1 := todo_less (n := N) (adj := adj) (ed := ed') hp (by rw [HDL.out, HEP.out]; exact hlt)
          have h2 := HF'.out.num
          have h3 := HL4.out
          simp only [List.length_cons] at h2 h3
          omega
        have HNUM := Lib.hid hnum
        clear hkk hlo hap hF2 hnum hHeld
        go_wp2_with fail
        go_roundg (2 * todo N adj (updE ed' p) + st4.length)
        case measure => exact HNUM.out
        case rel => exact ⟨been4, updE ed' p, st4, left, HF2⟩
      · have hltI : ¬ (ep : Int) < (dl : Int) := by omega
        have HO1 := Lib.hid (own_keep (w' := wr.drew.alloc (.cells #[.int .i64 (p : Int)] 3)) HF'.out.lo fun g _ hlt _ => Below.heap_alloc wr.drew _ _ hlt)
        have HLl := Lib.hid (show left.length ≤ N from nodup_len _ _ (List.nodup_append.1 (List.nodup_append.1 HF'.out.going.nodup).2.1).2.1 (fun x hx => HF'.out.going.bound x (by simp [hx])))
        have D3 := Lib.hid (show w.heap.size ≤ (wr.drew.alloc (.cells #[.int .i64 (p : Int)] 3)).heap.size from by rw [World.size_alloc]; exact Nat.le_trans HSZ.out (Nat.le_succ _))
        have D1 := Lib.hid (show left.length + 1 ≤ maxLen by have := HLl.out; unfold maxLen; omega)
        have D2 := Lib.hid (show (left.length + 1) * 8 ≤ 140737488355328 by have := HLl.out; omega)
        have HC1 := Lib.hid (show ∀ (j : Nat) (u : Value), [Value.int .i64 (p : Int)][j]? = some u → (wr.drew.alloc (.cells #[.int .i64 (p : Int)] 3)).cell? ((⟨wr.heap.size, 0, none⟩ : Addr).add j) = some u from fun j u hu => by
          have hj : j = 0 := by have := (List.getElem?_eq_some_iff.1 hu).1; simpa using this
          subst hj
          have hu2 : Value.int .i64 (p : Int) = u := by simpa using hu
          subst hu2
          rw [add_plain]
          exact ((Blk.new wr.drew 3 #[.int .i64 (p : Int)]).cell 0).trans rfl)
        have H1C := Lib.hid (show ∀ u ∈ [Value.int .i64 (p : Int)], u.oneCell' = true from fun u hu => by
          rw [List.mem_singleton] at hu; subst hu; rfl)
        go_wp2_with fail
        go_region
        go_wp2_with (at_builtin; refine wpList_append_own_at _ rfl (.tmp 70) (.tmp 72) 26 rfl w.heap.size 3 i0 (.int .i64 0) 1 8 Try.underlying26 hi hz0 hz1 hz2 rfl Nat.one_pos u5 left.length (nats left) rfl HO1.out ⟨wr.heap.size, 0, none⟩ 1 1 [.int .i64 (p : Int)] rfl rfl HC1.out H1C.out D1.out D2.out D3.out ?_; intro v2 w2 hown2 hg2 _ hat2)
        have hk2 : Keeps (fun k => u5.ownBlock ≠ some k) wr w2 := (((Keeps.refl _ wr).drew).alloc (.cells #[.int .i64 (p : Int)] 3)).grown hg2 fun r hr h => h hr
        have hgg : u5.ownBlock ≠ some g := fun h => HF'.out.apart g h rfl
        have hlo := HF'.out.lo.lt
        have hF2 : FrSt w B tb bb eb N Ag cg gL adj L s (2 * todo N adj ed' + t.length) v2 (.slice (some ⟨g, 0, none⟩) t.length cap) been' ed' t (left ++ [p]) w2 := by
          refine ⟨Nat.le_refl _, HF'.out.going.leave (by rw [HDL.out, HEP.out]; omega), ?_, ?_, ?_, ?_, ?_⟩
          · exact HF'.out.tr.keep hk2 (Nat.le_trans HB.out.2.2.2 HSZ.out) fun k hk h => by have := (hlo k h).1; have := HB.out; omega
          · rw [List.length_append, List.length_singleton]
            have hn : nats (left ++ [p]) = nats left ++ [Value.int .i64 (p : Int)] := by simp [nats]
            rw [hn]; exact hown2
          · exact own_keep (own_less HF'.out.eo) fun b _ hb e => hk2.block b (fun h => by
              have : g = b := by injection e
              exact hgg (this ▸ h)) hb
          · intro b hb e
            have hgb' : g = b := by injection e
            subst hgb'
            rcases hat2 with h | h
            · exact hgg (h ▸ hb)
            · rw [h] at hb
              have : wr.heap.size + 1 = g := by
                injection hb with hb
                have h9 : (wr.alloc (.cells #[.int .i64 (p : Int)] 3)).heap.size = g := hb
                rw [World.size_alloc] at h9; exact h9
              omega
          · exact HF'.out.keeps.trans (hk2.mono fun k hk _ h => by have := (hlo k h).1; omega)
        go_roundg (2 * todo N adj ed' + t.length)
        case measure => have := HF'.out.num; simp only [List.length_cons] at this; omega
        case rel => exact ⟨been', ed', t, left ++ [p], Lib.hid hF2⟩
end Go.Proofs.Ytlfgnoicjogfpaa.By
