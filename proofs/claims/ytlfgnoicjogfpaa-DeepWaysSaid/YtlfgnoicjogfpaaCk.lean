/-
  WALK of layer 11: order.
-/
import Derived.Test.YtlfgnoicjogfpaaCl
import Derived.Test.YtlfgnoicjogfpaaCi
import Derived.Sort.LoopGhostIn
import Derived.StillTailTactics
import Derived.OwnWalkIn
import Derived.Maps.OwnIn
import Derived.Lib.OwnKind
namespace Go.Proofs.Ytlfgnoicjogfpaa.By
open Go.RowKit
open Mem Gm Rf Hp Qu
attribute [local go_sem] Oper.semAt_some

theorem asked_any (A : Option Addr) (n c q : Nat) (w : World) : Calls Try.prog 103 #[.slice A n c, .func (.func 104) #[.pointer (some ⟨q, 0, none⟩)] #[]] w fun e w' =>
    e = .returned (.func (.func 139) #[] #[.pointer (some ⟨w.heap.size, 0, none⟩), .pointer (some ⟨w.heap.size + 1, 0, none⟩)]) ∧
      w' = (w.alloc (.cells #[.slice A n c] 26)).alloc (.cells #[.func (.func 104) #[.pointer (some ⟨q, 0, none⟩)] #[]] 127) := by
  go_enter Try.func103, Try.ntmps103
  go_wp2
  go_ret
  exact ⟨rfl, rfl⟩

/-- The members in order; none: there is none. -/
def ordV (g : List (List Int)) (ins : List Bool) : Option (List Nat) := ordL g.length (RM g ins) g.length (memV ins)

def OrdAns (r : Option (List Nat)) (w : World) (e : Ending) (w' : World) : Prop :=
  (match r with
  | some l => ∃ A c, e = .returned (.tuple #[.slice A l.length c, .bool true]) ∧ SlV w' w'.heap.size (.slice A l.length c) (nats l)
  | none => e = .returned (.tuple #[.slice none 0 0, .bool false])) ∧ Below w.heap.size w w'

/-- How far the rounds have come. -/
structure OStR (A : Option Addr) (N c B : Nat) (g : List (List Int)) (ins : List Bool) (w w1 : World) (q f : Nat) (mv : Value) (rs : List Nat) (W : World) (T : Nat → Bool) (U : Nat → Prop) (n : Nat) (done : List Nat) : Prop where
  ord : ordV g ins = (ordL N (RM g ins) f T).map (done ++ ·)
  many : many N T ≤ f
  qs : Qs W q U n (SQ N (RM g ins) T)
  ulo : ∀ b, U b → w.heap.size ≤ b
  qlo : w.heap.size ≤ q
  qn : q ≠ w1.heap.size
  ubox : ¬ U w1.heap.size
  box : Blk W w1.heap.size 120 #[.pointer (some ⟨q, 0, none⟩)]
  marks : Marks rs W
  apart : ∀ r ∈ rs, w1.heap.size < r ∧ ¬ U r ∧ r ≠ q
  own : W.ownsRow (w1.heap.size + 1) 3 1 mv done.length (nats done)
  mine : ∀ b, mv.ownBlock = some b → ¬ U b ∧ b ≠ q
  few : done.length + f ≤ N
  bel : Below w.heap.size w W
  nlt : n ≤ 500
def OSt (A : Option Addr) (N c B : Nat) (g : List (List Int)) (ins : List Bool) (w w1 : World) (q f : Nat) (mv : Value) (rs : List Nat) (W : World) : Prop :=
  ∃ T U n done, OStR A N c B g ins w w1 q f mv rs W T U n done

set_option linter.unusedSimpArgs false in
set_option maxRecDepth 100000 in
set_option maxHeartbeats 4000000 in
theorem order_any (A A2 : Option Addr) (c c2 M B N : Nat) (g : List (List Int)) (ins : List Bool) (w : World) (hN : g.length = N) (hG : Gr w B (.slice A N c) (innG g ins)) (hM : ins.length = M) (hI : SlV w B (.slice A2 M c2) (bls ins)) (hB : B ≤ w.heap.size) (hs : N ≤ 500) :
    Calls Try.prog 58 #[.slice A N c, .slice A2 M c2] w (OrdAns (ordV g ins) w) := by
  have HW := Lib.hid (waiting_any A A2 c c2 M B N g ins w hN hG hM hI hB hs)
  unfold WaitAns at HW
  have HG := Lib.hid hG
  have HIL := Lib.hid (show (innG g ins).length = N by rw [← hN]; exact gr_length _ _)
  rw [← HIL.out] at HG
  clear hG hI
  refine (callsIn_wide (n := 4)).1 ?_
  refine callsIn_of_wp_marks Try.func58 rfl trivial ?_ rfl
  simp only [Try.ntmps58, List.size_toArray, List.length_cons, List.length_nil, Nat.reduceAdd, Nat.reduceSub, Array.replicate_succ, Array.replicate_zero, List.push_toArray, List.append_toArray, List.nil_append, List.cons_append]
  gi_wp2_with (refine ⟨trivial, ?_⟩; gi_at_call 100; refine (callsIn_wide.2 HW.out).mono ?_; rintro e w1 ⟨q, U, m, rfl, hq, hu, hql, hb1, hml⟩; have HML := Lib.hid hml; have HQ := Lib.hid hq; have HU := Lib.hid hu; have HB1 := Lib.hid hb1; clear hq hu hb1 hml)
  obtain ⟨i0, hi, hz0, hz1, hz2⟩ := info_parts infoI
  have HQB := Lib.hid (Blk.new w1 120 #[.pointer (some ⟨q, 0, none⟩)])
  refine wpIn_loop_ghost (fun f a W => ∃ (u2 u3 u8 u9 u10 u11 u12 u13 u14 u15 u16 u17 u18 u19 u20 u21 u22 u23 u24 u25 u26 u27 u28 u29 u30 u31 u32 u33 u34 u35 u36 u37 u38 u39 u40 u41 u42 u43 u44 u45 u46 u47 u48 mv : Value) (rs : List Nat), a = { tmps := #[.slice A N c, .slice A2 M c2, u2, u3, .slice none 0 0, .bool false, .pointer (some ⟨w1.heap.size, 0, none⟩), mv, u8, u9, u10, u11, u12, u13, u14, u15, u16, u17, u18, u19, u20, u21, u22, u23, u24, u25, u26, u27, u28, u29, u30, u31, u32, u33, u34, u35, u36, u37, u38, u39, u40, u41, u42, u43, u44, u45, u46, u47, u48], defers := rs.map Rf.mark } ∧
    OSt A N c B g ins w w1 q f mv rs W) N ?start ?round
  case start =>
    refine ⟨undef, undef, undef, undef, undef, undef, undef, .slice A N c, .slice A2 M c2, .pointer (some ⟨q, 0, none⟩), undef, undef, undef, undef, undef, undef, undef, undef, undef, undef, undef, undef, undef, undef, undef, undef, undef, undef, undef, undef, undef, undef, undef, undef, undef, undef, undef, undef, undef, undef, undef, undef, undef, .slice none 0 0, [], rfl, memV ins, U, m, [], ?_⟩
    have hq9 := HQ.out.below (w' := w1.alloc (.cells #[.pointer (some ⟨q, 0, none⟩)] 120)) ((Below.refl _ _).alloc (Nat.le_refl _) _)
    have hlt := HQ.out.lt
    have hbs := HB1.out.size
    have hnil : ∀ r ∈ ([] : List Nat), w1.heap.size < r ∧ ¬ U r ∧ r ≠ q := fun r hr => by cases hr
    have hmk : Marks [] (w1.alloc (.cells #[.pointer (some ⟨q, 0, none⟩)] 120)) := ⟨List.nodup_nil, fun r hr => by cases hr⟩
    refine ⟨by unfold ordV; rw [hN]; simp, ?_, by rw [← hN]; exact hq9, HU.out, hql, by omega, (fun hu => by have := hlt.2 _ hu; omega), HQB.out, hmk, hnil, ⟨rfl, .inl ⟨rfl, rfl⟩⟩, (fun b hb => by cases hb), (by simp), HB1.out.alloc HB1.out.size _, by have := HML.out; omega⟩
    unfold many
    refine Nat.le_trans (List.length_filter_le _ _) ?_
    simp
  case round =>
    rintro f a W ⟨u2, u3, u8, u9, u10, u11, u12, u13, u14, u15, u16, u17, u18, u19, u20, u21, u22, u23, u24, u25, u26, u27, u28, u29, u30, u31, u32, u33, u34, u35, u36, u37, u38, u39, u40, u41, u42, u43, u44, u45, u46, u47, u48, mv, rs, rfl, T, Uq, nq, done, hO⟩
    have HBw := Lib.hid HB1.out.size
    have HOrd := Lib.hid hO.ord
    have HMany := Lib.hid hO.many
    have HULo := Lib.hid hO.ulo
    have HUB := Lib.hid hO.ubox
    have HBox := Lib.hid hO.box
    have HMk := Lib.hid hO.marks
    have HAp := Lib.hid hO.apart
    have HOwn := Lib.hid hO.own
    have HMine := Lib.hid hO.mine
    have HFew := Lib.hid hO.few
    have HBel := Lib.hid hO.bel
    have HNlt := Lib.hid hO.nlt
    have HQs := Lib.hid hO.qs
    have hcq : W.cell? ⟨w1.heap.size, 0, none⟩ = some (.pointer (some ⟨q, 0, none⟩)) := by rw [HBox.out.cell]; rfl
    have HLen := Lib.hid (qlen_any W q Uq nq _ HQs.out)
    clear hO
    cases nq with
    | zero =>
      have hmz : many N T = 0 := many_zero.2 (by
        rw [List.all_eq_true]
        intro p hp
        cases hTp : T p with
        | false => rfl
        | true => exact absurd ⟨p, List.mem_range.1 hp, hTp, rfl⟩ (HQs.out.none ((p : Int), (cntT N (RM g ins) T p : Int))))
      have HF := Lib.hid (show ordV g ins = some done by
        rw [HOrd.out]
        cases f with
        | zero => rw [ordL, if_pos (many_zero.1 hmz)]; simp
        | succ f => rw [ordL, if_pos (many_zero.1 hmz)]; simp)
      gi_wp2_with (refine ⟨trivial, ?_⟩; gi_at_call 101; refine (callsIn_wide.2 HLen.out).mono ?_; rintro e w2 ⟨rfl, rfl⟩)
      refine leaves_marks (by simp) rs W HMk.out fun w' hs => ?_
      refine ⟨_, results_tmp2 rfl _ _ _, ?_⟩
      rw [HF.out]
      have hsl := SlV.of_own HOwn.out
      obtain ⟨A9, c9, rfl⟩ := hsl.form
      have hnl : (nats done).length = done.length := by simp [nats]
      rw [hnl] at hsl ⊢
      exact ⟨⟨A9, c9, rfl, (hsl.keep fun p _ => hs.cell p).more hs.keeps.size⟩, HBel.out.trans (hs.keeps.below HBel.out.size fun k hk hkr => by have := (HAp.out k hkr).1; have := HBw.out; omega)⟩
    | succ nq =>
      have HTk := Lib.hid (take_yes W q Uq nq _ HQs.out)
      have hnp : (0 : Int) < (nq : Int) + 1 := by omega
      gi_wp2_with (refine ⟨trivial, ?_⟩; gi_at_call 101; refine (callsIn_wide.2 HLen.out).mono ?_; rintro e w2 ⟨rfl, rfl⟩)
      refine ⟨trivial, ?_⟩
      gi_at_call 102
      refine (callsIn_wide.2 HTk.out).mono ?_
      rintro e w2 ⟨x, rfl, ⟨p, hp, hTp, rfl⟩, hle, hq2, ht2⟩
      have hpk := pick_least hp hTp hle
      have hmany := many_minus hp hTp
      obtain ⟨f, rfl⟩ : ∃ f', f = f' + 1 := ⟨f - 1, by have := HMany.out; omega⟩
      have hnot : ((List.range N).all fun p => !T p) = false := by
        cases h : ((List.range N).all fun p => !T p) with
        | false => rfl
        | true => have := many_zero.2 h; omega
      have hstep : ordL N (RM g ins) (f + 1) T = match pick N (RM g ins) T with | none => none | some p => (ordL N (RM g ins) f (minus T p)).map (p :: ·) := by
        rw [ordL, if_neg (by rw [hnot]; decide)]; rfl
      rw [hpk] at hstep
      by_cases h0 : cntT N (RM g ins) T p = 0
      · rw [if_pos h0] at hstep
        have HOrd2 := Lib.hid (show ordV g ins = (ordL N (RM g ins) f (minus T p)).map ((done ++ [p]) ++ ·) by
          rw [HOrd.out, hstep]; simp only
          cases ordL N (RM g ins) f (minus T p) with
          | none => rfl
          | some l => simp)
        have hbel2 : Below w.heap.size w w2 := ⟨ht2.os.trans HBel.out.os, ht2.tape.trans HBel.out.tape, ht2.output.trans HBel.out.output, Nat.le_trans HBel.out.size ht2.size, fun b hb => (ht2.block b (by have := HBel.out.size; omega) (fun hu => by have := HULo.out b hu; omega)).trans (HBel.out.block b hb)⟩
        have HBel2 := Lib.hid hbel2
        have HMk2 := Lib.hid (HMk.out.keep fun r hr => ht2.block r (HMk.out.lt r hr) (HAp.out r hr).2.1)
        have HBox2 := Lib.hid (show Blk w2 w1.heap.size 120 #[.pointer (some ⟨q, 0, none⟩)] from (ht2.block _ HBox.out.lt HUB.out).trans HBox.out)
        have HOwn2 := Lib.hid (own_keep (w' := w2) HOwn.out fun b _ hb e => ht2.block b hb (HMine.out b e).1)
        have HQ2 := Lib.hid hq2
        have HMany2 := Lib.hid hmany
        have hsz2 := HBel2.out.size
        have hbx := HBox2.out.lt
        have hfew := HFew.out
        have HTp := Lib.hid hTp
        have HP := Lib.hid hp
        have HH0 := Lib.hid h0
        rw [h0]
        have D3 := Lib.hid (show w1.heap.size + 1 ≤ (w2.alloc (.cells #[.int .i64 (p : Int)] 3)).heap.size by simp; omega)
        have HOwn3 := Lib.hid (own_keep (w' := w2.alloc (.cells #[.int .i64 (p : Int)] 3)) HOwn2.out fun b _ hb _ => Below.heap_alloc _ _ _ hb)
        have D1 := Lib.hid (show done.length + 1 ≤ maxLen by unfold maxLen; omega)
        have D2 := Lib.hid (show (done.length + 1) * 8 ≤ 140737488355328 by omega)
        have HC1 := Lib.hid (show ∀ (j : Nat) (u : Value), [Value.int .i64 (p : Int)][j]? = some u → (w2.alloc (.cells #[.int .i64 (p : Int)] 3)).cell? ((⟨w2.heap.size, 0, none⟩ : Addr).add j) = some u from fun j u hu => by
          have hj : j = 0 := by have := (List.getElem?_eq_some_iff.1 hu).1; simpa using this
          subst hj
          have hu2 : Value.int .i64 (p : Int) = u := by simpa using hu
          subst hu2
          rw [show (⟨w2.heap.size, 0, none⟩ : Addr).add 0 = ⟨w2.heap.size, 0, none⟩ by simp [Addr.add]]
          rw [(Blk.new w2 3 #[.int .i64 (p : Int)]).cell]; rfl)
        have H1C := Lib.hid (show ∀ u ∈ [Value.int .i64 (p : Int)], u.oneCell' = true from fun u hu => by
          rw [List.mem_singleton] at hu; subst hu; rfl)
        obtain ⟨ad, c9, hAe, _, _, hbad, hrows⟩ := HG.out.rows (by rw [HIL.out]; omega)
        injection hAe with hA3 _ hC9
        obtain ⟨A', c', hrw, hrsl⟩ := hrows p (by rw [HIL.out]; exact hp)
        obtain ⟨L, hL⟩ : ∃ L, (rowOf (innG g ins) p).length = L := ⟨_, rfl⟩
        rw [hL] at hrw hrsl
        have HL := Lib.hid hL
        have HRS := Lib.hid hrsl
        subst hA3 hC9
        have hpI : (p : Int) < (N : Int) := by omega
        have hp0 : (0 : Int) ≤ (p : Int) := by omega
        clear hbel2 hq2 ht2 hle hstep hpk hnot hmany h0 hTp hrows hrsl hL
        gi_wp2_with (gi_at_builtin; refine wpListIn_append_own_at _ rfl (.tmp 27) (.tmp 29) 26 rfl (w1.heap.size + 1) 3 i0 (.int .i64 0) 1 8 Try.underlying26 hi hz0 hz1 hz2 rfl Nat.one_pos mv done.length (nats done) rfl HOwn3.out ⟨w2.heap.size, 0, none⟩ 1 1 [.int .i64 (p : Int)] rfl rfl HC1.out H1C.out D1.out D2.out D3.out ?_; intro mv3 w3 hown3 hg3 _ hat3)
        have HBox3 := Lib.hid (show Blk w3 w1.heap.size 120 #[.pointer (some ⟨q, 0, none⟩)] from (hg3.block _ (by simp; omega) (fun e => by have := (HOwn3.out.lt _ e.symm).1; omega)).trans (HBox2.out.alloc _))
        have HBel3 := Lib.hid (show Below w.heap.size w w3 from (HBel2.out.alloc HBel2.out.size (.cells #[.int .i64 (p : Int)] 3)).grown hg3 (by simp; omega) (fun r e => by have := (HOwn3.out.lt r e).1; have := HBw.out; omega))
        have hbox3 : w3.drew.cell? ⟨w1.heap.size, 0, none⟩ = some (.pointer (some ⟨q, 0, none⟩)) := (HBox3.out.cell 0).trans rfl
        have hrow3 : w3.drew.cell? (ad.add p) = some (.slice A' L c') := (HBel3.out.cell (by rw [add_block]; omega)).trans hrw
        have hrow4 : ((w3.drew.alloc (.cells #[.slice A' L c'] 26)).alloc (.cells #[.func (.func 104) #[.pointer (some ⟨q, 0, none⟩)] #[]] 127)).cell? (ad.add p) = some (.slice A' L c') := by
          have hlt := World.block_lt_of_cell? w3.drew _ hrow3
          rw [World.cell?_of_block (Below.heap_alloc _ _ _ (by rw [World.size_alloc]; omega)), World.cell?_of_block (Below.heap_alloc _ _ _ hlt)]
          exact hrow3
        have HOwn3b := Lib.hid hown3
        have hlt2 := HQ2.out.lt
        have htn3 : Tn (fun b => mv.ownBlock = some b) w2 w3 := ⟨hg3.os, hg3.tape, hg3.output, Nat.le_trans (by simp) hg3.size, fun b hb hu => (hg3.block b (by simp; omega) (fun e => hu e.symm)).trans (Below.heap_alloc _ _ _ hb)⟩
        have HQ3 := Lib.hid (HQ2.out.kept htn3 (fun b hb hm => (HMine.out b hm).1 hb) (fun hm => (HMine.out q hm).2 rfl))
        have HMk3 := Lib.hid (HMk2.out.keep fun r hr => htn3.block r (HMk2.out.lt r hr) (fun hm => by obtain ⟨cc, fz, h1⟩ := Go.Lib.ownsRow_kind HOwn2.out r hm; have h2 := HMk2.out.2 r hr; rw [h2] at h1; cases h1))
        have HMine3 := Lib.hid (show ∀ b, mv3.ownBlock = some b → ¬ Uq b ∧ b ≠ q from fun b hb => by
          rcases hat3 with h | h
          · exact HMine.out b (h ▸ hb)
          · rw [h] at hb
            have hb2 : w2.heap.size + 1 = b := by injection hb with hb; simpa using hb
            exact ⟨fun hu => by have := hlt2.2 b hu; omega, fun e => by have := hlt2.1; omega⟩)
        have HZ3 := Lib.hid (show w2.heap.size + 1 ≤ w3.heap.size from Nat.le_trans (by simp) hg3.size)
        have HLt2 := Lib.hid hlt2
        clear hlt2 htn3 hat3
        have HG3 := Lib.hid hg3
        clear hg3 hown3
        refine wpIn_wide.2 ?_
        refine wp_region_noPanic ?_
        refine wp_region_held_drew (S := fun W' => W'.cell? ⟨w1.heap.size, 0, none⟩ = some (.pointer (some ⟨q, 0, none⟩)) ∧ W'.cell? (ad.add p) = some (.slice A' L c')) (by kernel_rfl) (⟨hbox3, hrow3⟩) (fun hHeld => ?_)
        refine wpAnyH_take (i := 0) rfl (by kernel_rfl) (by kernel_rfl) (by kernel_rfl) (fun _ _ _ h => h) (Or.inl ⟨by rfl, by intro W hSW; (try dsimp only at hSW); go_simp; try (with_reducible rfl)⟩) hHeld ?_
        try simp only [Act.put, List.getElem_toArray, List.getElem_cons_zero, List.getElem_cons_succ, List.setIfInBounds_toArray, List.set_cons_zero, List.set_cons_succ]
        refine wpAnyH_take (i := 1) rfl (by kernel_rfl) (by kernel_rfl) (by kernel_rfl) (fun _ _ _ h => h) (Or.inl ⟨by rfl, by intro W hSW; (try dsimp only at hSW); go_simp; try (with_reducible rfl)⟩) hHeld ?_
        try simp only [Act.put, List.getElem_toArray, List.getElem_cons_zero, List.getElem_cons_succ, List.setIfInBounds_toArray, List.set_cons_zero, List.set_cons_succ]
        refine wpAnyH_take (i := 2) rfl (by kernel_rfl) (by kernel_rfl) (by kernel_rfl) (fun _ _ _ h => h) (Or.inl ⟨by rfl, by intro W hSW; (try dsimp only at hSW); go_simp; try (with_reducible rfl)⟩) hHeld ?_
        try simp only [Act.put, List.getElem_toArray, List.getElem_cons_zero, List.getElem_cons_succ, List.setIfInBounds_toArray, List.set_cons_zero, List.set_cons_succ]
        refine wpAnyH_take (i := 3) rfl (by kernel_rfl) (by kernel_rfl) (by kernel_rfl) (fun _ _ _ h => h) (Or.inl ⟨by rfl, by intro W hSW; (try dsimp only at hSW); go_simp; try (with_reducible rfl)⟩) hHeld ?_
        try simp only [Act.put, List.getElem_toArray, List.getElem_cons_zero, List.getElem_cons_succ, List.setIfInBounds_toArray, List.set_cons_zero, List.set_cons_succ]
        refine wpAnyH_take (i := 4) rfl (by kernel_rfl) (by kernel_rfl) (by kernel_rfl) (fun _ _ _ h => h) (Or.inl ⟨by rfl, by intro W hSW; (try dsimp only at hSW); go_simp; try (with_reducible rfl)⟩) hHeld ?_
        try simp only [Act.put, List.getElem_toArray, List.getElem_cons_zero, List.getElem_cons_succ, List.setIfInBounds_toArray, List.set_cons_zero, List.set_cons_succ]
        refine wpAnyH_take (i := 5) rfl (by kernel_rfl) (by kernel_rfl) (by kernel_rfl) (fun _ _ _ h => h) (Or.inl ⟨by rfl, by intro W hSW; (try dsimp only at hSW); go_simp; try (with_reducible rfl)⟩) hHeld ?_
        try simp only [Act.put, List.getElem_toArray, List.getElem_cons_zero, List.getElem_cons_succ, List.setIfInBounds_toArray, List.set_cons_zero, List.set_cons_succ]
        refine wpAnyH_ready (rs := [6]) (by kernel_rfl) (by simp) ?_
        refine AllReadyH.cons rfl (fun K hK => ?_) AllReadyH.nil
        go_simp
        refine (asked_any _ _ _ _ _).mono ?_; rintro e w4 ⟨rfl, rfl⟩
        try go_wp2_with fail
        refine hK.out _ _ (⟨(((Blk.alloc (Blk.alloc (w := w3) HBox3.out _) _).cell 0).trans rfl), hrow4⟩) ?_
        clear hK K hHeld
        intro hHeld
        try simp only [Act.put, List.getElem_toArray, List.getElem_cons_zero, List.getElem_cons_succ, List.setIfInBounds_toArray, List.set_cons_zero, List.set_cons_succ]
        refine wpAnyH_done (by kernel_rfl) ?_ _
        refine NoPanic.normal ?_
        clear hHeld hbox3 hrow3 hrow4
        have HHd := Lib.hid (show ∀ r ∈ rs, r < w2.heap.size ∧ ¬ Uq r from fun r hr => ⟨HMk2.out.lt r hr, (HAp.out r hr).2.1⟩)
        obtain ⟨W4, hW4⟩ : ∃ W4, ((w3.alloc (.cells #[.slice A' L c'] 26)).alloc (.cells #[.func (.func 104) #[.pointer (some ⟨q, 0, none⟩)] #[]] 127)).drew = W4 := ⟨_, rfl⟩
        have hsz4 : W4.heap.size = w3.heap.size + 2 := by rw [← hW4]; simp [World.drew]
        have hb34 : Below w3.heap.size w3 W4 := by
          rw [← hW4]
          have h := ((Below.refl _ w3).alloc (Nat.le_refl _) (.cells #[.slice A' L c'] 26)).alloc (by simp) (.cells #[.func (.func 104) #[.pointer (some ⟨q, 0, none⟩)] #[]] 127)
          exact ⟨h.os, h.tape, h.output, h.size, h.block⟩
        have hbx1 : W4.cell? ⟨w3.heap.size, 0, none⟩ = some (.slice A' L c') := by
          rw [← hW4]; exact (((Blk.new w3 26 #[.slice A' L c']).alloc _).cell 0).trans rfl
        have hbx2 : W4.cell? ⟨w3.heap.size + 1, 0, none⟩ = some (.func (.func 104) #[.pointer (some ⟨q, 0, none⟩)] #[]) := by
          rw [← hW4]
          have := (Blk.new (w3.alloc (.cells #[.slice A' L c'] 26)) 127 #[.func (.func 104) #[.pointer (some ⟨q, 0, none⟩)] #[]]).cell 0
          rw [World.size_alloc] at this
          exact this.trans rfl
        have hbw4 : Below w.heap.size w W4 := HBel3.out.trans (hb34.mono HBel3.out.size)
        have hrs4 : SlV W4 B (.slice A' L c') (nats (endsM N (RM g ins) p)) := by
          rw [← row_ends g ins hN hp]; exact HRS.out.below (hbw4.mono hB)
        have HT := Lib.hid (asked_tells 3 (by decide) w.heap.size w3.heap.size (w3.heap.size + 1) q B L c' A' (kfM N (RM g ins) T p) (endsM N (RM g ins) p) (endsM_nodup _ _ _) (by rw [row_ends_len g ins hN hp]; exact HL.out) W4 hbx1 hbx2 hrs4 hB (Nat.le_trans hB hbw4.size))
        have hq4 : Qs W4 q Uq nq (SM N (RM g ins) T p []) := (HQ3.out.below (hb34.mono (Nat.le_refl _))).congr fun y => (sm_nil y).symm
        have hz3 := HZ3.out
        have hl2 := HLt2.out
        have hqT : ¬ Rf.Two W4.heap.size q := fun h => by unfold Rf.Two at h; omega
        have h0 : OIn w.heap.size W4 q Uq nq (SM N (RM g ins) T p []) W4 := ⟨Uq, hq4, fun b hb => ⟨HULo.out b hb, fun _ => hb, fun h => by have := hl2.2 b hb; unfold Rf.Two at h; omega⟩, Tn.refl _ _⟩
        have hB1 : w3.heap.size < W4.heap.size ∧ ¬ Uq w3.heap.size := ⟨by omega, fun h => by have := hl2.2 _ h; omega⟩
        have hB2 : w3.heap.size + 1 < W4.heap.size ∧ ¬ Uq (w3.heap.size + 1) := ⟨by omega, fun h => by have := hl2.2 _ h; omega⟩
        have HB12 := Lib.hid (And.intro hB1 hB2)
        have HB34 := Lib.hid hb34
        have HBw4 := Lib.hid hbw4
        have HBx4 := Lib.hid (HBox3.out.below hb34 HBox3.out.lt)
        have HS4 := Lib.hid hsz4
        have HNq := Lib.hid (show nq + 1 ≤ 500 from HNlt.out)
        rw [hW4]
        gi_wp2
        clear hW4 hsz4 hb34 hbx1 hbx2 hbw4 hrs4 hq4 hz3 hl2 hB1 hB2
        refine wpIn_rangeG rfl (by decide) (gf := 139) (lb := #[.pointer (some ⟨w3.heap.size, 0, none⟩), .pointer (some ⟨w3.heap.size + 1, 0, none⟩)]) rfl trivial (enters_of Try.func139 (by kernel_rfl) rfl) HT.out (Below.refl _ _) (fun _ => rfl)
          (fun k => ¬ Rf.Two W4.heap.size k) (fun k h hn => hn h) (fun _ _ => trivial) (fun _ _ => trivial) (fun h => by have := HS4.out; have := HBel3.out.size; omega)
          (fun pre W => OIn w.heap.size W4 q Uq nq (SM N (RM g ins) T p pre) W) (fun _ _ _ => False)
          (fun s X Y h hk => OIn.keep h hqT hk) (fun _ _ _ _ h _ _ => h) (fun s X h => by obtain ⟨U9, hQ, _⟩ := h; exact sm_holds hs hQ) h0
          (fun x => { tmps := #[.slice (some ad) N c, .slice A2 M c2, u2, u3, .slice none 0 0, .bool false, .pointer (some ⟨w1.heap.size, 0, none⟩), mv3, .int .i64 (p : Int), .int .i64 0, .bool true, .int .i64 (x.1 : Int), .int .i64 x.2, u13, u14, u15, .pointer (some ⟨q, 0, none⟩), .int .i64 ((nq : Int) + 1), .bool true, .tuple #[.int .i64 (p : Int), .int .i64 0, .bool true], .pointer (some ⟨q, 0, none⟩), .tuple #[.int .i64 (p : Int), .int .i64 0, .bool true], .int .i64 (p : Int), .int .i64 0, .bool true, .int .i64 0, .bool false, mv, .int .i64 (p : Int), .slice (some ⟨w2.heap.size, 0, none⟩) 1 1, mv3, .slice (some ad) N c, .int .i64 (p : Int), .pointer (some (ad.add p)), .slice A' L c', .pointer (some ⟨q, 0, none⟩), .func (.func 104) #[.pointer (some ⟨q, 0, none⟩)] #[], .func (.func 139) #[] #[.pointer (some ⟨w3.heap.size, 0, none⟩), .pointer (some ⟨w3.heap.size + 1, 0, none⟩)], .int .i64 (x.1 : Int), .int .i64 x.2, u40, u41, u42, u43, u44, u45, u46, u47, u48], defers := [] }) ?assign ?body ?done ?stop
        case assign =>
          intro l x W K hK
          gi_wp2
          exact hK
        case body =>
          rintro l pre ⟨e, k⟩ W5 ⟨U9, hQ9, hU9, hT9⟩ hpre hsz5
          obtain ⟨he, hk, hmem, hnot⟩ := sm_next hpre
          have HRD := Lib.hid (sm_round hpre)
          dsimp only at he hk hmem hnot HRD
          have hcn := cnt_le N (RM g ins) T e
          have hk0 : 0 ≤ k := by omega
          have hk5 : k ≤ 500 := by omega
          have hwr : IntKind.i64.wrap (k - 1) = k - 1 := IntWalk.i64_in _ ⟨by omega, by omega⟩
          cases nq with
          | zero => exact absurd hmem (hQ9.none _)
          | succ n9 =>
            have HD := Lib.hid (drop_yes W5 q U9 n9 _ hQ9 (e : Int) ((e : Int), k) hmem rfl)
            unfold DropPost at HD
            have hbx5 : W5.cell? ⟨w1.heap.size, 0, none⟩ = some (.pointer (some ⟨q, 0, none⟩)) := by
              have h1 := HBx4.out
              exact ((hT9.blk h1 (fun h => HUB.out ((hU9 _ h).2.1 h1.lt))).cell 0).trans rfl
            have HU9 := Lib.hid hU9
            have HT9 := Lib.hid hT9
            have HE := Lib.hid he
            clear hQ9 hU9 hT9 hmem hnot hk hcn hpre
            gi_wp2
            refine ⟨trivial, ?_⟩
            gi_at_call 105
            refine (CallsIn.inRound l (callsIn_wide.2 HD.out)).mono ?_
            rintro e5 w5 ⟨rfl, hq5, ht5⟩
            have HQ5 := Lib.hid hq5
            have HT5 := Lib.hid ht5
            have hbx6 : w5.cell? ⟨w1.heap.size, 0, none⟩ = some (.pointer (some ⟨q, 0, none⟩)) := (World.cell?_of_block (ht5.block _ (World.block_lt_of_cell? W5 _ hbx5) (fun h => HUB.out ((HU9.out _ h).2.1 HBx4.out.lt)))).trans hbx5
            clear hq5 ht5
            have HP5 := Lib.hid (put_yes w5 q U9 n9 _ HQ5.out ((e : Int), k - 1) ⟨⟨by have := HE.out; show (-9223372036854775808 : Int) ≤ (e : Int); omega, by have := HE.out; show (e : Int) ≤ 9223372036854775807; omega⟩, ⟨by show (-9223372036854775808 : Int) ≤ k - 1; omega, by show k - 1 ≤ (9223372036854775807 : Int); omega⟩⟩ (by have := HNq.out; omega) (fun y hy => hy.2))
            unfold PutPost at HP5
            gi_wp2
            refine ⟨trivial, ?_⟩
            gi_at_call 106
            refine (CallsIn.inRound l (callsIn_wide.2 HP5.out)).mono ?_
            rintro e6 w6 ⟨rfl, hq6, ht6⟩
            have HQ6 := Lib.hid hq6
            have HT6 := Lib.hid ht6
            clear hq6 ht6
            gi_wp2
            exact OIn.round HBw4.out.size HU9.out HT9.out hsz5 HT5.out (HQ6.out.congr HRD.out) HT6.out HB12.out.1 HB12.out.2
        case done =>
          rintro W5 ⟨U9, hQ9, hU9, hT9⟩ hD
          have hsz4 := HS4.out
          have hz3 := HZ3.out
          have hl2 := HLt2.out
          have hqw := HQ.out.lt.1
          have hbz := HB1.out.size
          have hw23 := HBel2.out.size
          have h34 := HB34.out
          have hfar : ∀ b, b < w3.heap.size → ¬ Uq b → W5.heap[b]? = w3.heap[b]? := fun b hb hu => (hT9.block b (by omega) (fun h => hu ((hU9 b h).2.1 (by omega)))).trans (h34.block b hb)
          have HO : Hid (OSt (some ad) N c B g ins w w1 q f mv3 (W4.heap.size :: rs) W5) := Lib.hid (by
            refine ⟨minus T p, U9, nq, done ++ [p], HOrd2.out, by have := HMany.out; have := HMany2.out; omega, hQ9.congr fun y => sm_end HP.out HTp.out y, fun b hb => (hU9 b hb).1, hql, by omega, fun h => HUB.out ((hU9 _ h).2.1 (by omega)), ?_, ?_, ?_, ?_, ?_, by simp; omega, ?_, by have := HNq.out; omega⟩
            · exact hT9.blk HBx4.out (fun h => HUB.out ((hU9 _ h).2.1 HBx4.out.lt))
            · refine Marks.put (HMk3.out.keep fun r hr => hfar r (HMk3.out.lt r hr) (HHd.out r hr).2) (fun h => by have := HMk3.out.lt _ h; omega) hD
            · intro r hr
              rcases List.mem_cons.1 hr with rfl | hr
              · exact ⟨by omega, fun h => (hU9 _ h).2.2 (.inl rfl), by omega⟩
              · have h1 := HAp.out r hr
                exact ⟨h1.1, fun h => h1.2.1 ((hU9 _ h).2.1 (by have := HMk3.out.lt _ hr; omega)), h1.2.2⟩
            · have := own_keep (w' := W5) HOwn3b.out fun b _ hb e => hfar b hb (HMine3.out b e).1
              rw [List.length_append, List.length_singleton]
              have hn : nats (done ++ [p]) = nats done ++ [Value.int .i64 (p : Int)] := by simp [nats]
              rw [hn]; exact this
            · intro b hb
              have h1 := HMine3.out b hb
              exact ⟨fun h => h1.1 ((hU9 _ h).2.1 (by have := (HOwn3b.out.lt b hb).2; omega)), h1.2⟩
            · exact HBw4.out.trans (hT9.below HBw4.out.size fun b hb => (hU9 b hb).1))
          clear hQ9 hU9 hT9 hsz4 hz3 hl2 hqw hbz hw23 h34 hfar hfew hsz2 hbx
          gi_wp2
          exact ⟨f, Nat.lt_succ_self f, _, _, _, _, _, _, _, _, _, _, _, _, _, _, _, _, _, _, _, _, _, _, _, _, _, _, _, _, _, _, _, _, _, _, _, _, _, _, _, _, _, _, _, mv3, W4.heap.size :: rs, rfl, HO.out⟩
        case stop =>
          rintro ch pre W _ h _
          exact h.elim
      · rw [if_neg h0] at hstep
        have hc0 : (0 : Int) < ((cntT N (RM g ins) T p : Nat) : Int) := by omega
        have HF := Lib.hid (show ordV g ins = none by rw [HOrd.out, hstep]; rfl)
        have hbel2 : Below w.heap.size w w2 := ⟨ht2.os.trans HBel.out.os, ht2.tape.trans HBel.out.tape, ht2.output.trans HBel.out.output, Nat.le_trans HBel.out.size ht2.size, fun b hb => (ht2.block b (by have := HBel.out.size; omega) (fun hu => by have := HULo.out b hu; omega)).trans (HBel.out.block b hb)⟩
        have HBel2 := Lib.hid hbel2
        have HMk2 := Lib.hid (HMk.out.keep fun r hr => ht2.block r (HMk.out.lt r hr) (HAp.out r hr).2.1)
        clear hbel2 hq2 ht2 hle hstep hpk hnot hmany
        gi_wp2
        refine leaves_marks (by simp) rs w2 HMk2.out fun w' hs => ?_
        refine ⟨_, results_tmp2 rfl _ _ _, ?_⟩
        rw [HF.out]
        exact ⟨rfl, HBel2.out.trans (hs.keeps.below HBel2.out.size fun k hk hkr => by have := (HAp.out k hkr).1; have := HBw.out; omega)⟩
end Go.Proofs.Ytlfgnoicjogfpaa.By
