/-
 Lf2 Lg2 Lh2 Li2 Lj2 Lk2 Ll2 Lm2 Ln2 Lo2 Lp2
-/
import Derived.Test.YtdaimeaofgbfpaaGreatZa2
import Derived.Test.YtdaimeaofgbfpaaGreatLe2
import Derived.Test.YtdaimeaofgbfpaaGreatLb2
import Derived.Test.YtdaimeaofgbfpaaGreatQp2
import Derived.Test.YtdaimeaofgbfpaaGreatLd2
set_option linter.unusedSimpArgs false
set_option linter.unusedVariables false
namespace Go.Proofs.YtdaimeaofgbfpaaGreat.Bo
open Go.RowKit Go.Maps
open Mem Rf By
attribute [local go_sem] Oper.semAt_some
def ocL (G : List (List Int)) (cl : List Int) : List Int := cl.flatMap fun z => rowOf G z.toNat
theorem ocL_next {G : List (List Int)} {cl : List Int} {j c : Nat} (hj : j < cl.length) (h : cl.getD j 0 = (c : Int)) : ocL G (cl.take (j + 1)) = ocL G (cl.take j) ++ rowOf G c := by
 unfold ocL
 rw [take_next (d := 0) hj, h, List.flatMap_append]
 simp
theorem ocL_pre {G : List (List Int)} {cl : List Int} {j : Nat} : ocL G (cl.take j) <+: ocL G cl := by
 unfold ocL
 have : cl = cl.take j ++ cl.drop j := (List.take_append_drop j cl).symm
 conv => rhs; rw [this]
 rw [List.flatMap_append]
 exact List.prefix_append _ _
theorem take_pre {α : Type} {a b : List α} (i : Nat) : a ++ b.take i <+: a ++ b := by
 rw [List.prefix_append_right_inj]
 exact List.take_prefix _ _
def ocE (z : Int) : Array Value := #[.int .i64 z]
def OcR (X : World) (bc ba : Nat) (Ac : Option Addr) (cc : Nat) (cl : List Int) (sl : Nat → Option Addr × Nat) (G : List (List Int)) : Prop :=
 X.cell? ⟨bc, 0, none⟩ = some (.slice Ac cl.length cc) ∧ (∀ j, j < cl.length → ∃ ad, Ac = some ad ∧ X.cell? (ad.add j) = some (.int .i64 (cl.getD j 0))) ∧
 ∀ c, c < 8 → X.cell? ⟨ba, c, none⟩ = some (.slice (sl c).1 (rowOf G c).length (sl c).2) ∧ ∀ i, i < (rowOf G c).length → ∃ ad, (sl c).1 = some ad ∧ X.cell? (ad.add i) = some (.int .i64 ((rowOf G c).getD i 0))
set_option maxRecDepth 100000 in
set_option maxHeartbeats 4000000 in
theorem oc1_in (q l bc ba : Nat) (Ac : Option Addr) (cc : Nat) (cl : List Int) (sl : Nat → Option Addr × Nat) (G : List (List Int)) (hm : cl.length ≤ 1000) (hr : ∀ c, (rowOf G c).length ≤ 1000) (hcl : ∀ j, j < cl.length → ∃ c : Nat, c < 8 ∧ cl.getD j 0 = (c : Int))
  (J Jx : List Int → World → Prop) (U : Nat → Prop) (W : World)
  (hY : ∀ pre x W1, J pre W1 → pre ++ [x] <+: ocL G cl → YieldAt Fence.wide (q - 1) Tryz.prog l (ocE x) W1 fun e W' =>
   (e = .returned (.bool true) ∧ J (pre ++ [x]) W' ∧ Keeps U W1 W') ∨ (e = .returned (.bool false) ∧ Jx (pre ++ [x]) W'))
  (hR : ∀ X, Keeps U W X → OcR X bc ba Ac cc cl sl G) (h0 : J [] W) :
  CallsIn Fence.wide q Tryz.prog 97 #[.func (.yield l) #[] #[], .pointer (some ⟨bc, 0, none⟩), .pointer (some ⟨ba, 0, none⟩)] W fun e W' => (∃ v, e = .returned v) ∧
   (J (ocL G cl) W' ∨ ∃ pre, pre <+: ocL G cl ∧ Jx pre W') := by
 have h0' : J (ocL G (cl.take 0)) W := h0
 have HY := Hd hY
 have HR := Hd hR
 have HCL := Hd hcl
 have HRL := Hd hr
 have c0 := (hR W (Keeps.refl _ _)).1
 have HNX := Hd (fun j c => @ocL_next G cl j c)
 have HPR := Hd (fun j => @ocL_pre G cl j)
 have HALL : Hid (ocL G (cl.take cl.length) = ocL G cl) := Hd (by rw [List.take_length])
 obtain ⟨m, hm9⟩ : ∃ m, cl.length = m := ⟨_, rfl⟩
 rw [hm9] at hm c0 HCL HNX HALL
 have HM := Hd hm9
 clear hY hR h0 hcl hr hm9
 refine callsIn_of_wp Tryz.func97 rfl trivial ?_ rfl
 simp only [Tryz.ntmps97, List.size_toArray, List.length_cons, List.length_nil, Nat.reduceAdd, Nat.reduceSub, Array.replicate_succ, Array.replicate_zero, List.push_toArray, List.append_toArray, List.nil_append, List.cons_append]
 gi_wp2
 gi_loopw [10] (fun i wr => ∃ j : Nat, j ≤ m ∧ i = .int .i64 j ∧ J (ocL G (cl.take j)) wr ∧ Keeps U W wr) (fun i _ => m - (intOf i).toNat)
 case atStart => exact ⟨0, Nat.zero_le _, rfl, h0', Keeps.refl _ _⟩
 case round =>
  obtain ⟨j, hj, rfl, hJ, hK⟩ := hrel
  by_cases hlt : j < m
  ·obtain ⟨c, hc8, he⟩ := HCL.out j hlt
   obtain ⟨_, hrd, hrw⟩ := HR.out wr hK
   obtain ⟨ad, hA, y0⟩ := hrd j (by rw [HM.out]; exact hlt)
   rw [he] at y0
   obtain ⟨y1, hyr⟩ := hrw c hc8
   have hjI : (j : Int) < (m : Int) := by omega
   have hj0 : (0 : Int) ≤ (j : Int) := by omega
   have hc0 : (0 : Int) ≤ (c : Int) := by omega
   have hcI : (c : Int) < (8 : Int) := by omega
   have HT := Hd (HNX.out j c hlt he)
   have HP1 := Hd (HPR.out (j + 1))
   have hrl := HRL.out c
   have HRC := Hd (fun X hX => (HR.out X hX).2.2 c hc8)
   obtain ⟨⟨sA, sC⟩, hs⟩ : ∃ s, sl c = s := ⟨_, rfl⟩
   rw [hs] at y1 HRC
   obtain ⟨R, hR⟩ : ∃ R, rowOf G c = R := ⟨_, rfl⟩
   rw [hR] at y1 HRC hrl HT
   obtain ⟨n, hn⟩ : ∃ n, R.length = n := ⟨_, rfl⟩
   have HN := Hd hn
   rw [hn] at y1 hrl HRC
   dsimp only at y1 HRC
   subst hA
   have HJ0 := Hd hJ
   have HK0 := Hd hK
   clear hyr hrd hrw hs hR hn hJ hK he
   obtain ⟨wo, hwo⟩ : ∃ wo, wo = wr := ⟨_, rfl⟩
   subst hwo
   gi_wp2
   gi_loopw [18] (fun i wr => ∃ k : Nat, k ≤ n ∧ i = .int .i64 k ∧ J (ocL G (cl.take j) ++ R.take k) wr ∧ Keeps U W wr) (fun i _ => n - (intOf i).toNat)
   case atStart => exact ⟨0, Nat.zero_le _, rfl, by rw [List.take_zero, List.append_nil]; exact HJ0.out, HK0.out⟩
   case round =>
    obtain ⟨k, hk, rfl, hJ2, hK2⟩ := hrel
    by_cases hkl : k < n
    ·obtain ⟨ae, hA2, z0⟩ := (HRC.out wr hK2).2 k hkl
     obtain ⟨z, hz⟩ : ∃ z, R.getD k 0 = z := ⟨_, rfl⟩
     rw [hz] at z0
     have HTK := Hd (show R.take (k + 1) = R.take k ++ [z] from by rw [take_next (d := 0) (by rw [HN.out]; exact hkl), hz])
     have HPP := Hd (show (ocL G (cl.take j) ++ R.take k) ++ [z] <+: ocL G cl from by
      rw [List.append_assoc, ← HTK.out]
      refine (take_pre (k + 1)).trans ?_
      rw [← HT.out]; exact HP1.out)
     obtain ⟨fnI, tmps, assign, body, hy, hRR⟩ := HY.out _ z wr hJ2 HPP.out
     have HRR := Hd hRR
     unfold ocE at hy
     have hkI : (k : Int) < (n : Int) := by omega
     have hk0 : (0 : Int) ≤ (k : Int) := by omega
     have HK3 := Hd hK2
     subst hA2
     clear hRR hJ2 hK2 hz
     gi_wp2
     refine ⟨fun h => (by cases h), HRR.out.mono ?_⟩
     rintro e W3 (⟨rfl, hJ4, hk4⟩ | ⟨rfl, hJx4⟩)
     ·gi_wp2
      go_roundw
      case rel => exact ⟨k + 1, by omega, by go_num, by rw [HTK.out, ← List.append_assoc]; exact hJ4, HK3.out.trans hk4⟩
      case measure => simp [intOf]; omega
     ·gi_wp2
      refine bodyPost_ret (results_none rfl _ _ _) rfl ?_
      exact ⟨⟨_, rfl⟩, .inr ⟨_, HPP.out, hJx4⟩⟩
    ·obtain rfl : k = n := by omega
     have hJ3 : J (ocL G (cl.take (j + 1))) wr := by
      rw [HT.out]
      rw [← HN.out, List.take_length] at hJ2
      exact hJ2
     gi_wp2
     go_roundw
     case rel => exact ⟨j + 1, by omega, by go_num, hJ3, hK2⟩
     case measure => simp [intOf]; omega
  ·obtain rfl : j = m := by omega
   rw [HALL.out] at hJ
   gi_wp2
   go_end0
   exact ⟨⟨_, rfl⟩, .inl hJ⟩
theorem oc_tells (q bc ba : Nat) (Ac : Option Addr) (cc : Nat) (cl : List Int) (sl : Nat → Option Addr × Nat) (G : List (List Int)) (hm : cl.length ≤ 1000) (hr : ∀ c, (rowOf G c).length ≤ 1000) (hcl : ∀ j, j < cl.length → ∃ c : Nat, c < 8 ∧ cl.getD j 0 = (c : Int))
  (U : Nat → Prop) (w : World) (hUw : ∀ k, U k → k < w.heap.size) (hR : ∀ X, Keeps U w X → OcR X bc ba Ac cc cl sl G) :
  TellsX Fence.wide q Tryz.prog 97 #[.pointer (some ⟨bc, 0, none⟩), .pointer (some ⟨ba, 0, none⟩)] ocE (fun _ k => U k) (fun _ _ => True) (ocL G cl) w := by
 intro l J Jx W hb hJ hJx hY h0
 have hK : Keeps U w W := Keeps.of_below hb (fun k hk _ => hUw k hk)
 exact oc1_in q l bc ba Ac cc cl sl G hm hr hcl J Jx U W
  (fun pre x W1 h1 h2 => (hY pre x W1 h1 h2).mono fun e W' h => h.elim (fun h => .inl h) (fun h => .inr ⟨h.1, h.2.1⟩))
  (fun X hX => hR X (hK.trans hX)) h0
end Go.Proofs.YtdaimeaofgbfpaaGreat.Bo
namespace Go.Proofs.YtdaimeaofgbfpaaGreat.Bo
open Go.RowKit Go.Maps
open Mem Rf
def BlD (w : World) (n : Nat) (f : Nat → Bool) (e : Ending) (w' : World) : Prop := ∃ A c, e = .returned (.slice A n c) ∧ BL w' A n c ((List.range n).map f) ∧ Below w.heap.size w w'
theorem rreach_one {W : World} {n : Nat} {L : List (List Int)} {A A2 : Option Addr} {c c2 : Nat} {z : Int} (h : By.Gr W W.heap.size (.slice A n c) L) (hL : L.length = n) (hn : n ≤ 24) (hF : SlV W W.heap.size (.slice A2 1 c2) (By.ints [z])) :
  Calls Tryz.prog 45 #[.slice A n c, .slice A2 1 c2] W (BlD W n (Gm.reach L [z])) := by
 subst hL
 refine (By.rreach_any W A A2 c c2 L [z] h hF (by omega) (by simp)).mono ?_
 rintro e w' ⟨A', rfl, hs, hb⟩
 refine ⟨A', _, rfl, bl_of_slv (B := w'.heap.size) ?_ (Nat.le_refl _), hb⟩
 unfold By.reachV at hs
 rw [List.map_map]
 exact hs
set_option maxRecDepth 100000 in
set_option maxHeartbeats 8000000 in
theorem rlive_any (w : World) (P : Pgm) (h : PgR w P) : Calls Tryz.prog 16 #[pgV P] w (BlD w P.fn (liveB P)) := by
 have HRF := Hd (fun W (hb : Below w.heap.size w W) => lists2_doc W P (h.on hb))
 have HRE := Hd (fun W A c A2 c2 (hg : By.Gr W W.heap.size (.slice A P.fn c) (refG P)) (hF : SlV W W.heap.size (.slice A2 1 c2) (By.ints [P.entry])) => rreach_one hg (refG_len P) h.few.1 hF)
 have HLL := Hd (refG_len P)
 have hfn := h.few.1
 unfold liveB
 generalize hf : Gm.reach (refG P) [P.entry] = f at HRE ⊢
 have HRG : Hid (refG P = (List.range P.fn).map (refersL P)) := Hd rfl
 rw [← HRG.out] at HRF
 generalize refG P = L at HRF HRE HLL
 clear h hf HRG
 obtain ⟨fA, fn, fc, fs, dA, dn, dc, ds, en, cs⟩ := P
 unfold pgV at HRF ⊢
 dsimp only at HRF HRE HLL hfn ⊢
 obtain ⟨W0, hW0⟩ : ∃ W0, w.alloc (.cells #[.slice fA fn fc, .slice dA dn dc, .int .i64 en] 29) = W0 := ⟨_, rfl⟩
 have HB0 := Hd (show Below w.heap.size w W0 from by rw [← hW0]; exact alloc_ _ _)
 have HBK := Hd (show Blk W0 w.heap.size 29 #[.slice fA fn fc, .slice dA dn dc, .int .i64 en] from by rw [← hW0]; exact Blk.new _ _ _)
 go_enter Tryz.func16, Tryz.ntmps16
 go_wp2_with fail
 clear hW0
 refine wp_region_noPanic ?_
 refine wp_region_held_drew (S := fun W => W.cell? ⟨w.heap.size, 0, none⟩ = some (.slice fA fn fc) ∧ W.cell? ⟨w.heap.size, 1, none⟩ = some (.slice dA dn dc) ∧ W.cell? ⟨w.heap.size, 2, none⟩ = some (.int .i64 en)) (by kernel_rfl) (⟨HBK.out.cell 0, HBK.out.cell 1, HBK.out.cell 2⟩) (fun hHeld => ?_)
 refine tk3Z 0 2 3 hHeld ?_
 refine wpAnyH_ready (rs := [1, 4]) (by kernel_rfl) (by simp) ?_
 refine AllReadyH.cons rfl (fun K hK => ?_) (AllReadyH.cons rfl (fun K hK => ?_) AllReadyH.nil)
 focus
  go_simp
  refine (HRF.out _ HB0.out.drew).mono ?_; rintro e u1 ⟨ov, rfl, ho, hb⟩; obtain ⟨gA, gc, rfl, hgr⟩ := OutI.gr ho; rw [HLL.out] at hgr; rw [HLL.out]; have HG := Hd hgr; have HU := Hd hb; have HBU := Hd (to_ HB0.out.drew hb); clear hgr ho hb
  try go_wp2_with fail
  refine hK.out _ _ ((on3Z hHeld HU.out)) ?_
  clear hK K hHeld
  intro hHeld
  try simp only [Act.put, nmZ]
  refine rd1Z 4 (fun K hK => ?_)
  go_simp
  have HU := Hd (alloc_ (u1) (.cells #[.int .i64 en] 3))
  have HSL := Hd (SlV.new (u1) (By.ints [en]) 3 (by unfold By.ints maxLen; simp))
  refine hK.out _ _ ((on3Z hHeld HU.out)) ?_
  clear hK K hHeld
  intro hHeld
  try simp only [Act.put, nmZ]
  refine rd1Z 5 (fun K hK => ?_)
  go_simp
  refine (HRE.out _ gA gc _ _ ((By.Gr.below HG.out (alloc_ _ _)).more (by simp)) (HSL.out.more (by simp))).mono ?_; rintro e u2 ⟨A2, c2, rfl, hbl, hb⟩; have HU := Hd hb; have HF := Hd hbl; have HBF := Hd (to_ (to_ HBU.out (alloc_ _ _)) hb); clear hbl hb
  try go_wp2_with fail
 rotate_left
 focus
  go_simp
  have HU := Hd (alloc_ (W0.drew) (.cells #[.int .i64 en] 3))
  have HSL := Hd (SlV.new (W0.drew) (By.ints [en]) 3 (by unfold By.ints maxLen; simp))
  refine hK.out _ _ ((on3Z hHeld HU.out)) ?_
  clear hK K hHeld
  intro hHeld
  try simp only [Act.put, nmZ]
  refine rd1Z 1 (fun K hK => ?_)
  go_simp
  refine (HRF.out _ (to_ HB0.out.drew (alloc_ _ _))).mono ?_; rintro e u1 ⟨ov, rfl, ho, hb⟩; obtain ⟨gA, gc, rfl, hgr⟩ := OutI.gr ho; rw [HLL.out] at hgr; rw [HLL.out]; have HG := Hd hgr; have HU := Hd hb; have HBU := Hd (to_ (to_ HB0.out.drew (alloc_ _ _)) hb); clear hgr ho hb
  try go_wp2_with fail
  refine hK.out _ _ ((on3Z hHeld HU.out)) ?_
  clear hK K hHeld
  intro hHeld
  try simp only [Act.put, nmZ]
  refine rd1Z 5 (fun K hK => ?_)
  go_simp
  refine (HRE.out _ gA gc _ _ HG.out ((HSL.out.below (HU.out.mono (by simp))).more (by have h9 := HU.out.size; have h8 : W0.drew.heap.size = W0.heap.size := rfl; simp at h9; omega))).mono ?_; rintro e u2 ⟨A2, c2, rfl, hbl, hb⟩; have HU := Hd hb; have HF := Hd hbl; have HBF := Hd (to_ HBU.out hb); clear hbl hb
  try go_wp2_with fail
 rotate_left
 all_goals
  refine hK.out _ _ ((on3Z hHeld HU.out)) ?_
  clear hK K hHeld
  intro hHeld
  try simp only [Act.put, nmZ]
  refine tk1Z 6 hHeld ?_
  refine wpAnyH_done (by kernel_rfl) ?_ _
  refine NoPanic.normal ?_
  go_wp2_with fail
  go_ret
  exact ⟨A2, c2, rfl, HF.out, HBF.out⟩
end Go.Proofs.YtdaimeaofgbfpaaGreat.Bo
namespace Go.Proofs.YtdaimeaofgbfpaaGreat.Bo
open Go.RowKit Go.Maps
open Mem Rf By
set_option maxRecDepth 100000 in
set_option maxHeartbeats 8000000 in
theorem rtaken_any (w : World) (P : Pgm) (h : PgR w P) : Calls Tryz.prog 18 #[pgV P] w (BlD w P.fn (takenB P)) := by
 have HVA := Hd (fun W (hb : Below w.heap.size w W) k (hk : k < P.fn) => (show Calls Tryz.prog 49 #[pgV P, .int .i64 (k : Int)] W (IOwn W (valuesL P k)) from values_doc W P (h.on hb) k hk))
 have HLI := Hd (fun W (hb : Below w.heap.size w W) => rlive_any W P (h.on hb))
 have hfn := h.few.1
 have hmk := make_bools P.fn (by omega)
 have HVR := Hd (fun a j (hj : j < (valuesL P a).length) => (show ∃ t : Nat, t < P.fn ∧ (valuesL P a).getD j 0 = (t : Int) from rise_at hj))
 have HEND : Hid (tkM (valuesL P) (marks (liveB P) P.fn) [] = takenB P) := Hd (by funext k; unfold tkM takenB; simp)
 have HVF := Hd (fun a => show (valuesL P a).length ≤ 24 from Nat.le_trans (rise_len _ _) h.few.1)
 clear h
 obtain ⟨T, hT⟩ : ∃ T, takenB P = T := ⟨_, rfl⟩
 rw [hT] at HEND ⊢
 obtain ⟨V, hV⟩ : ∃ V, valuesL P = V := ⟨_, rfl⟩
 rw [hV] at HVA HVR HEND HVF
 obtain ⟨f, hf⟩ : ∃ f, liveB P = f := ⟨_, rfl⟩
 rw [hf] at HLI HEND
 clear hT hV hf
 obtain ⟨fA, fn, fc, fs, dA, dn, dc, ds, en, cs⟩ := P
 unfold pgV at HVA HLI ⊢
 dsimp only at HVA HLI HVR HEND hfn hmk ⊢
 obtain ⟨W0, hW0⟩ : ∃ W0, w.alloc (.cells #[.slice fA fn fc, .slice dA dn dc, .int .i64 en] 29) = W0 := ⟨_, rfl⟩
 have HB0 := Hd (show Below w.heap.size w W0 from by rw [← hW0]; exact alloc_ _ _)
 have HPB := Hd (show Blk W0 w.heap.size 29 #[.slice fA fn fc, .slice dA dn dc, .int .i64 en] from by rw [← hW0]; exact Blk.new _ _ _)
 obtain ⟨x0, x1, x2⟩ := q3Z HPB.out
 go_enter Tryz.func18, Tryz.ntmps18
 go_wp2_with (go_at_call 16; refine (HLI.out W0 HB0.out).mono ?_; rintro e w2 ⟨A2, c2, rfl, hbl, hb2⟩; have HBL := Hd hbl; have HB2 := Hd hb2; clear hbl hb2 hW0 x0 x1 x2; have q9 := HPB.out.below HB2.out HPB.out.lt; have x0 : w2.cell? ⟨w.heap.size, 0, none⟩ = some (.slice fA fn fc) := q9.cell 0; clear q9)
 obtain ⟨W3, hW3⟩ : ∃ W3, w2.alloc (.cells (Array.replicate fn (.bool false)) 4) = W3 := ⟨_, rfl⟩
 have HW3 := Hd (show Below w2.heap.size w2 W3 from by rw [← hW3]; exact alloc_ _ _)
 have HR3 : Hid (Blk W3 w2.heap.size 4 (tkA fn (tkM V (marks f 0) []))) := Hd (by
  have e : tkA fn (tkM V (marks f 0) []) = Array.replicate fn (.bool false) := by
   rw [arrN_rep]; unfold tkA tkM marks; simp
  rw [e, ← hW3]; exact Blk.new _ _ _)
 have HP3 := Hd (HPB.out.below (to_ HB2.out HW3.out) HPB.out.lt)
 have HSZ := Hd (show w.heap.size < w2.heap.size ∧ W3.heap.size = w2.heap.size + 1 from ⟨by have h1 := HPB.out.lt; have h2 := HB2.out.size; omega, by rw [← hW3]; simp⟩)
 have HX := Hd (show ∀ X, Keeps (fun g => g ≠ w2.heap.size) W3 X → X.cell? ⟨w.heap.size, 0, none⟩ = some (.slice fA fn fc) ∧ X.cell? ⟨w.heap.size, 1, none⟩ = some (.slice dA dn dc) ∧ X.cell? ⟨w.heap.size, 2, none⟩ = some (.int .i64 en) from fun X hX => by
  have hne : w.heap.size ≠ w2.heap.size := by have := HSZ.out; omega
  exact ⟨hX.cell hne (HP3.out.cell 0), hX.cell hne (HP3.out.cell 1), hX.cell hne (HP3.out.cell 2)⟩)
 have HLV := Hd (show ∀ X, Keeps (fun g => g ≠ w2.heap.size) W3 X → ∀ k, k < fn → ∃ ad, A2 = some ad ∧ X.cell? (ad.add k) = some (.bool (f k)) from fun X hX k hk => by
  obtain ⟨ad, e, hb9, hc⟩ := HBL.out.at_ hk
  have hg : ((List.range fn).map f).getD k false = f k := by rw [List.getD_eq_getElem?_getD, List.getElem?_map, List.getElem?_range hk]; rfl
  rw [hg] at hc
  exact ⟨ad, e, hX.cell (by rw [add_block]; omega) (cell_on hc HW3.out)⟩)
 have HLO := Hd (show ∀ X, Keeps (fun g => g ≠ w2.heap.size) W3 X → Below w.heap.size w X from fun X hX => (to_ HB0.out (to_ HB2.out HW3.out)).trans (hX.below (by have := HSZ.out; omega) (fun k hk => by have := HSZ.out; omega)))
 rw [hW3]
 clear hW3 x0 hmk
 go_loopw [5] (fun i9 wr => ∃ k : Nat, k ≤ fn ∧ i9 = .int .i64 (k : Int) ∧ Blk wr w2.heap.size 4 (tkA fn (tkM V (marks f k) [])) ∧ Keeps (fun g => g ≠ w2.heap.size) W3 wr) (fun i9 _ => fn - (intOf i9).toNat)
 case atStart => exact ⟨0, Nat.zero_le _, rfl, HR3.out, Keeps.refl _ _⟩
 case round =>
  obtain ⟨k, hk, rfl, hbk, hkk⟩ := hrel
  obtain ⟨x0, x1, x2⟩ := HX.out wr hkk
  by_cases hlt : k < fn
  ·have hkI : (k : Int) < (fn : Int) := by omega
   have hk0 : (0 : Int) ≤ (k : Int) := by omega
   have HC := Hd (HVA.out wr (HLO.out wr hkk) k hlt)
   have HBK := Hd hbk
   have HKK := Hd hkk
   have HMT := Hd (@marks_take f k)
   have HMS := Hd (@marks_skip f k)
   clear hbk hkk
   obtain ⟨b, hb⟩ : ∃ b, f k = b := ⟨_, rfl⟩
   rw [hb] at HMT HMS
   have HFK := Hd hb
   cases b with
   | false =>
    have HT := Hd (HMS.out rfl)
    clear hb
    go_wp2_with (go_at_call 49; refine HC.out.mono ?_; rintro e w4 ⟨v6, rfl, ho, hb4⟩; obtain ⟨A6, c6, rfl, hil⟩ := own_il ho; have HIL := Hd hil; have HNE6 := Hd (show ∀ (A : Option Addr) ad, A6 = some ad → ad.block < w4.heap.size → ad.block ≠ w2.heap.size from fun A ad e _ hh => by subst e; have h7 := (ho.lt ad.block rfl).1; have h8 := HBK.out.lt; omega); have HB4 := Hd hb4; clear hil ho hb4 x0 x1 x2)
    have HK4 := Hd (show Keeps (fun g => g ≠ w2.heap.size) W3 w4 from HKK.out.trans (Keeps.of_below HB4.out (fun _ _ h => h)))
    have HR4 := Hd (show Blk w4 w2.heap.size 4 (tkA fn (tkM V (marks f k) [])) from HBK.out.below HB4.out HBK.out.lt)
    go_loopw [7] (fun i7 wr => i7 = .int .i64 0 ∧ wr = w4) (fun _ _ => 0)
    case atStart => exact ⟨rfl, rfl⟩
    case round =>
     obtain ⟨rfl, rfl⟩ := hrel
     obtain ⟨x0, x1, x2⟩ := HX.out _ HK4.out
     obtain ⟨ae, rfl, y0⟩ := HLV.out _ HK4.out k hlt
     rw [HFK.out] at y0
     go_wp2_with fail
     go_roundw
     case rel => exact ⟨k + 1, by omega, by go_num, by rw [HT.out]; exact HR4.out, HK4.out⟩
     case measure => simp [intOf]; omega
   | true =>
    have HT := Hd (HMT.out rfl)
    clear hb
    go_wp2_with (go_at_call 49; refine HC.out.mono ?_; rintro e w4 ⟨v6, rfl, ho, hb4⟩; obtain ⟨A6, c6, rfl, hil⟩ := own_il ho; have HIL := Hd hil; have HNE6 := Hd (show ∀ (A : Option Addr) ad, A6 = some ad → ad.block < w4.heap.size → ad.block ≠ w2.heap.size from fun A ad e _ hh => by subst e; have h7 := (ho.lt ad.block rfl).1; have h8 := HBK.out.lt; omega); have HB4 := Hd hb4; clear hil ho hb4 x0 x1 x2)
    have HK4 := Hd (show Keeps (fun g => g ≠ w2.heap.size) W3 w4 from HKK.out.trans (Keeps.of_below HB4.out (fun _ _ h => h)))
    have HR4 := Hd (show Blk w4 w2.heap.size 4 (tkA fn (tkM V (marks f k) [])) from HBK.out.below HB4.out HBK.out.lt)
    obtain ⟨m9, hm9⟩ : ∃ m9, (V k).length = m9 := ⟨_, rfl⟩
    have hm24 := HVF.out k
    have HVRX := Hd (HVR.out k)
    rw [hm9] at HIL hm24 HVRX
    have HM9 := Hd hm9
    rw [hm9]
    clear hm9
    go_loopw [7] (fun i7 wr => ∃ j : Nat, j ≤ m9 ∧ i7 = .int .i64 (j : Int) ∧ Blk wr w2.heap.size 4 (tkA fn (tkM V (marks f k) ((V k).take j))) ∧ Keeps (fun g => g ≠ w2.heap.size) w4 wr) (fun i7 _ => m9 - (intOf i7).toNat)
    case atStart => exact ⟨0, Nat.zero_le _, rfl, HR4.out, Keeps.refl _ _⟩
    case round =>
     obtain ⟨j, hj, rfl, hbk, hkk⟩ := hrel
     have HKJ := Hd (HK4.out.trans hkk)
     obtain ⟨x0, x1, x2⟩ := HX.out _ HKJ.out
     obtain ⟨ae, hae, y0⟩ := HLV.out _ HKJ.out k hlt
     rw [HFK.out] at y0
     subst hae
     by_cases hjl : j < m9
     ·have hjI : (j : Int) < (m9 : Int) := by omega
      have hj0 : (0 : Int) ≤ (j : Int) := by omega
      obtain ⟨m, hm, he⟩ := HVRX.out j hjl
      obtain ⟨ad, rfl, hadb, z0⟩ := HIL.out.at_ hjl
      rw [he] at z0
      have hne6 : ad.block ≠ w2.heap.size := HNE6.out none ad rfl hadb
      have z0 := hkk.cell (by rw [add_block]; exact hne6) z0
      have hmI : (m : Int) < (fn : Int) := by omega
      have hm0 : (0 : Int) ≤ (m : Int) := by omega
      have r0 : wr.cell? ⟨w2.heap.size, m, none⟩ = some (.bool (tkM V (marks f k) ((V k).take j) m)) := by rw [hbk.cell]; exact tkA_at hm
      have hfr : wr.frozen? ⟨w2.heap.size, m, none⟩ = false := hbk.frozen m
      have HBJ := Hd hbk
      have HJK := Hd hkk
      have HTN := Hd (show (V k).take (j + 1) = (V k).take j ++ [(m : Int)] from by rw [take_next (d := 0) (by rw [HM9.out]; exact hjl), he])
      obtain ⟨b9, hb9⟩ : ∃ b9, tkM V (marks f k) ((V k).take j) m = b9 := ⟨_, rfl⟩
      rw [hb9] at r0
      clear hbk hkk hb9 he hadb hne6
      go_wp2_with fail
      go_roundw
      case rel => exact ⟨j + 1, by omega, by go_num, by rw [HTN.out, ← tkA_set]; exact HBJ.out.stored m _, HJK.out.setCell (by simp) _⟩
      case measure => simp [intOf]; omega
     ·obtain rfl : j = m9 := by omega
      have hfin : Blk wr w2.heap.size 4 (tkA fn (tkM V (marks f (k + 1)) [])) := by
       rw [HT.out, ← tkM_next]
       rw [← HM9.out, List.take_length] at hbk
       exact hbk
      have HFI := Hd hfin
      clear hbk hkk hfin
      go_wp2_with fail
      go_roundw
      case rel => exact ⟨k + 1, by omega, by go_num, HFI.out, HKJ.out⟩
      case measure => simp [intOf]; omega
  ·obtain rfl : k = fn := by omega
   have hbl := bl_arr (by rw [HEND.out] at hbk; exact hbk) (show k ≤ 1000 by omega)
   have HFI := Hd hbl
   have HLL := Hd (HLO.out wr hkk)
   clear hbk hkk hbl
   go_wp2_with fail
   go_ret
   exact ⟨_, _, rfl, HFI.out, HLL.out⟩
def byC (T : Nat → Bool) (cl : Nat → Int) (vs : List Int) (k : Nat) : List Int := ((List.range k).filter fun a => T a && vs.contains (cl a)).map fun (a : Nat) => (a : Int)
theorem byC_next (T : Nat → Bool) (cl : Nat → Int) (vs : List Int) (k : Nat) : byC T cl vs (k + 1) = byC T cl vs k ++ (if (T k && vs.contains (cl k)) = true then [(k : Int)] else []) := by
 unfold byC
 rw [List.range_succ, List.filter_append, List.map_append]
 by_cases h : (T k && vs.contains (cl k)) = true
 ·rw [if_pos h]; simp only [List.filter_cons, List.filter_nil]; rw [if_pos h]; rfl
 ·rw [if_neg h]; simp only [List.filter_cons, List.filter_nil]; rw [if_neg h]; rfl
theorem byC_len (T : Nat → Bool) (cl : Nat → Int) (vs : List Int) (k : Nat) : (byC T cl vs k).length ≤ k := by
 unfold byC; rw [List.length_map]; exact Nat.le_trans (List.length_filter_le _ _) (by simp)
def edgL (P : Pgm) (i : Nat) : List Int := if liveB P i = true then rise P.fn (directL P i ++ byC (takenB P) (clV P) (viasL P i) P.fn) else []
set_option maxRecDepth 100000 in
set_option maxHeartbeats 8000000 in
theorem redges_any (w : World) (P : Pgm) (h : PgR w P) (LA TA : Option Addr) (lc tc : Nat) (hL : BL w LA P.fn lc ((List.range P.fn).map (liveB P))) (hT : BL w TA P.fn tc ((List.range P.fn).map (takenB P))) (i : Nat) (hi : i < P.fn) :
  Calls Tryz.prog 55 #[pgV P, .slice LA P.fn lc, .slice TA P.fn tc, .int .i64 (i : Int)] w (IOwn w (edgL P i)) := by
 obtain ⟨iN, hiN, hzN0, hzN1, hzN2⟩ := info_split infoInt
 have HDI := Hd (fun W (hb : Below w.heap.size w W) => (show Calls Tryz.prog 84 #[pgV P, .int .i64 (i : Int)] W (IOwn W (directL P i)) from direct_doc W P (h.on hb) i hi))
 have HVI := Hd (fun W (hb : Below w.heap.size w W) => (show Calls Tryz.prog 86 #[pgV P, .int .i64 (i : Int)] W (IOwn W (viasL P i)) from vias_doc W P (h.on hb) i hi))
 have HCL := Hd (fun W (hb : Below w.heap.size w W) a (ha : a < P.fn) => (show ∃ ad, P.fA = some ad ∧ W.cell? ⟨(ad.add (a * 13)).block, (ad.add (a * 13)).off + 3, none⟩ = some (.int .i64 (clV P a)) from by
  obtain ⟨ad, e, _, _, hc⟩ := gf_at (h.fr.below hb) ha
  exact ⟨ad, e, hc 2 _ rfl⟩))
 have HLV := Hd (fun W (hb : Below w.heap.size w W) k (hk : k < P.fn) => (show ∃ ad, LA = some ad ∧ W.cell? (ad.add k) = some (.bool (liveB P k)) from by
  obtain ⟨ad, e, _, hc⟩ := (hL.on hb).at_ hk
  rw [show ((List.range P.fn).map (liveB P)).getD k false = liveB P k from by rw [List.getD_eq_getElem?_getD, List.getElem?_map, List.getElem?_range hk]; rfl] at hc
  exact ⟨ad, e, hc⟩))
 have HTV := Hd (fun W (hb : Below w.heap.size w W) k (hk : k < P.fn) => (show ∃ ad, TA = some ad ∧ W.cell? (ad.add k) = some (.bool (takenB P k)) from by
  obtain ⟨ad, e, _, hc⟩ := (hT.on hb).at_ hk
  rw [show ((List.range P.fn).map (takenB P)).getD k false = takenB P k from by rw [List.getD_eq_getElem?_getD, List.getElem?_map, List.getElem?_range hk]; rfl] at hc
  exact ⟨ad, e, hc⟩))
 have hfn := h.few.1
 have hdl : (directL P i).length ≤ 24 := Nat.le_trans (rise_len _ _) h.few.1
 have hvl : (viasL P i).length ≤ 8 := rise_len _ _
 have HYE : Hid (liveB P i = true → edgL P i = rise P.fn (directL P i ++ byC (takenB P) (clV P) (viasL P i) P.fn)) := Hd (fun hh => if_pos hh)
 have HNO : Hid (liveB P i = false → edgL P i = []) := Hd (fun hh => if_neg (by rw [hh]; simp))
 clear h hL hT
 obtain ⟨E, hE⟩ : ∃ E, edgL P i = E := ⟨_, rfl⟩
 rw [hE] at HYE HNO ⊢
 obtain ⟨D, hD⟩ : ∃ D, directL P i = D := ⟨_, rfl⟩
 rw [hD] at HDI HYE hdl
 obtain ⟨Vs, hVs⟩ : ∃ Vs, viasL P i = Vs := ⟨_, rfl⟩
 rw [hVs] at HVI HYE hvl
 obtain ⟨f, hf⟩ : ∃ f, liveB P = f := ⟨_, rfl⟩
 rw [hf] at HLV HYE HNO
 obtain ⟨T, hT9⟩ : ∃ T, takenB P = T := ⟨_, rfl⟩
 rw [hT9] at HTV HYE
 obtain ⟨cl, hcl⟩ : ∃ cl, clV P = cl := ⟨_, rfl⟩
 rw [hcl] at HCL HYE
 clear hE hD hVs hf hT9 hcl
 obtain ⟨fA, fn, fc, fs, dA, dn, dc, ds, en, cs⟩ := P
 unfold pgV at HDI HVI ⊢
 dsimp only at HDI HVI HCL HLV HTV HYE hfn hi ⊢
 have hi0 : (0 : Int) ≤ (i : Int) := by omega
 have hiI : (i : Int) < (fn : Int) := by omega
 obtain ⟨W0, hW0⟩ : ∃ W0, w.alloc (.cells #[.slice fA fn fc, .slice dA dn dc, .int .i64 en] 29) = W0 := ⟨_, rfl⟩
 have HB0 := Hd (show Below w.heap.size w W0 from by rw [← hW0]; exact alloc_ _ _)
 have HPB := Hd (show Blk W0 w.heap.size 29 #[.slice fA fn fc, .slice dA dn dc, .int .i64 en] from by rw [← hW0]; exact Blk.new _ _ _)
 have HX := Hd (show ∀ X, Below W0.heap.size W0 X → X.cell? ⟨w.heap.size, 0, none⟩ = some (.slice fA fn fc) ∧ X.cell? ⟨w.heap.size, 1, none⟩ = some (.slice dA dn dc) ∧ X.cell? ⟨w.heap.size, 2, none⟩ = some (.int .i64 en) from fun X hb => ⟨(HPB.out.below hb HPB.out.lt).cell 0, (HPB.out.below hb HPB.out.lt).cell 1, (HPB.out.below hb HPB.out.lt).cell 2⟩)
 obtain ⟨x0, x1, x2⟩ := HX.out W0 (Below.refl _ _)
 obtain ⟨ad1, rfl, y0⟩ := HLV.out W0 HB0.out i hi
 obtain ⟨b, hb⟩ : ∃ b, f i = b := ⟨_, rfl⟩
 rw [hb] at y0 HYE HNO
 cases b with
 | false =>
  obtain rfl := HNO.out rfl
  clear hb
  go_enter Tryz.func55, Tryz.ntmps55
  go_wp2_with fail
  go_ret
  exact ⟨_, rfl, World.ownsRow_nil _ _ _ _, HB0.out⟩
 | true =>
  obtain rfl := HYE.out rfl
  clear hb
  go_enter Tryz.func55, Tryz.ntmps55
  go_wp2_with (go_at_call 84; refine (HDI.out W0 HB0.out).mono ?_; rintro e w5 ⟨v5, rfl, ho, hb5⟩; have HO5 := Hd ho; have HB5 := Hd hb5; clear ho hb5 x0 x1 x2 y0 hW0; obtain ⟨x0, x1, x2⟩ := HX.out w5 HB5.out; go_wp2_with (go_at_call 86; refine (HVI.out w5 (to_ HB0.out HB5.out)).mono ?_; rintro e w7 ⟨v7, rfl, ho, hb7⟩; obtain ⟨A7, c7, rfl, hil⟩ := own_il ho; have HI7 := Hd hil; have HB7 := Hd hb7; have HLO7 := Hd (show ∀ ad, A7 = some ad → w5.heap.size ≤ ad.block from fun ad e => by subst e; exact (ho.lt ad.block rfl).1); clear hil ho hb7 x0 x1 x2))
  have HB7S := Hd (show W0.heap.size ≤ w7.heap.size from (to_ HB5.out HB7.out).size)
  have HO7 := Hd (own_on HO5.out HB7.out)
  have HB07 := Hd (to_ HB0.out (to_ HB5.out HB7.out))
  have HIN := Hd (fun W (hb : Keeps (fun g => g < W0.heap.size ∨ (w5.heap.size ≤ g ∧ g < w7.heap.size)) w7 W) z => in_any W A7 Vs.length c7 Vs z ⟨HI7.out.1, HI7.out.2.1, HI7.out.2.2.1, HI7.out.2.2.2.1, fun a x ha => by
   obtain ⟨ad, e, hb9, hc⟩ := HI7.out.2.2.2.2 a x ha
   have hlo := HLO7.out ad e
   exact ⟨ad, e, Nat.lt_of_lt_of_le hb9 hb.size, fun j u hu => hb.cell (.inr (by rw [add_block, add_block]; exact ⟨hlo, hb9⟩)) (hc j u hu)⟩⟩ (by omega))
  have HNX := Hd (byC_next T cl Vs)
  have HBL := Hd (byC_len T cl Vs)
  go_loopw [9, 11] (fun v9 i9 wr => ∃ k : Nat, k ≤ fn ∧ i9 = .int .i64 (k : Int) ∧ Hid (wr.ownsRow W0.heap.size 3 1 v9 (D ++ byC T cl Vs k).length ((D ++ byC T cl Vs k).flatMap encI)) ∧ Hid (Keeps (fun g => g < W0.heap.size ∨ (w5.heap.size ≤ g ∧ g < w7.heap.size)) w7 wr) ∧ Hid (∀ g, v9.ownBlock = some g → g < w5.heap.size ∨ w7.heap.size ≤ g)) (fun _ i9 _ => fn - (intOf i9).toNat)
  case atStart => exact ⟨0, Nat.zero_le _, rfl, Hd (by rw [show byC T cl Vs 0 = [] from rfl, List.append_nil]; exact HO7.out), Hd (Keeps.refl _ _), Hd (fun g hg => .inl (HO5.out.lt g hg).2)⟩
  case round =>
   obtain ⟨k, hk, rfl, HOW, HBE, HOB⟩ := hrel
   have HBX := Hd (show Below W0.heap.size W0 wr from (to_ HB5.out HB7.out).trans (HBE.out.below HB7S.out (fun g hg => .inl hg)))
   have HSW := Hd (show W0.heap.size ≤ wr.heap.size from HBX.out.size)
   obtain ⟨x0, x1, x2⟩ := HX.out wr HBX.out
   by_cases hlt : k < fn
   ·have hkI : (k : Int) < (fn : Int) := by omega
    have hk0 : (0 : Int) ≤ (k : Int) := by omega
    obtain ⟨ad2, rfl, t0⟩ := HTV.out wr (to_ HB0.out HBX.out) k hlt
    obtain ⟨ad3, rfl, c3⟩ := HCL.out wr (to_ HB0.out HBX.out) k hlt
    have HN := Hd (HNX.out k)
    have HLN := Hd (show (D ++ byC T cl Vs k).length ≤ 48 from by rw [List.length_append]; have := HBL.out k; omega)
    obtain ⟨b, hb⟩ : ∃ b, T k = b := ⟨_, rfl⟩
    rw [hb] at t0 HN
    clear hb
    cases b with
    | false =>
     have HT := Hd (show byC T cl Vs (k + 1) = byC T cl Vs k from by rw [HN.out]; simp)
     go_wp2_with fail
     go_roundw
     case rel => exact ⟨k + 1, by omega, by go_num, Hd (by rw [HT.out]; exact HOW.out), HBE, HOB⟩
     case measure => simp [intOf]; omega
    | true =>
     obtain ⟨b2, hb2⟩ : ∃ b2, Vs.contains (cl k) = b2 := ⟨_, rfl⟩
     rw [hb2] at HN
     cases b2 with
     | false =>
      have HT := Hd (show byC T cl Vs (k + 1) = byC T cl Vs k from by rw [HN.out]; simp)
      go_wp2_with (go_at_call 100; refine (HIN.out wr HBE.out (cl k)).mono ?_; rintro e w9 ⟨rfl, rfl⟩; rw [hb2])
      go_roundw
      case rel => exact ⟨k + 1, by omega, by go_num, Hd (by rw [HT.out]; exact HOW.out), HBE, HOB⟩
      case measure => simp [intOf]; omega
     | true =>
      have HT := Hd (show byC T cl Vs (k + 1) = byC T cl Vs k ++ [(k : Int)] from by rw [HN.out]; simp)
      go_wp2_with (go_at_call 100; refine (HIN.out wr HBE.out (cl k)).mono ?_; rintro e w9 ⟨rfl, rfl⟩; rw [hb2]; go_wp2_with (at_builtin; go_loud (refine wpList_append_wh _ rfl _ _ 44 rfl W0.heap.size 3 iN (.int .i64 0) 1 8 Tryz.underlying44 hiN hzN0 hzN1 hzN2 rfl (by decide) _ _ _ rfl (own_keep1 HOW.out fun gg _ hgl _ => (alloc_ _ _).block gg hgl) ⟨wr.heap.size, 0, none⟩ 1 1 [.int .i64 (k : Int)] (by decide) rfl rfl (one_new wr _ 3) (by simp [Value.oneCell']) (by unfold maxLen; have := HLN.out; omega) (by have := HLN.out; omega) (by have := HSW.out; simp; omega) ?_; intro v' w' h2 h3 h5; have H2 := Hd h2; have H3 := Hd h3; have H5 := Hd h5; clear h2 h3 h5)))
      go_roundw
      case rel => exact ⟨k + 1, by omega, by go_num, Hd (by rw [HT.out, ← List.append_assoc, List.flatMap_append, List.length_append]; exact H2.out), Hd (((HBE.out.alloc _)).grown H3.out (fun r e hr => by have h7 := HOB.out r e; have h8 := (HOW.out.lt r e).1; omega)), Hd (fun g hg => H5.out.elim (fun h5 => HOB.out g (h5 ▸ hg)) (fun h5 => .inr (by rw [h5] at hg; injection hg with hg; have h9 := HBE.out.size; have h8 : (wr.alloc (.cells #[.int .i64 (k : Int)] 3)).heap.size = wr.heap.size + 1 := (by simp); omega)))⟩
      case measure => simp [intOf]; omega
   ·obtain rfl : k = fn := by omega
    have hll : (D ++ byC T cl Vs k).length ≤ 1000000 := by rw [List.length_append]; have := HBL.out k; omega
    have how := HOW.out
    obtain ⟨L9, hL9⟩ : ∃ L9, D ++ byC T cl Vs k = L9 := ⟨_, rfl⟩
    rw [hL9] at how hll ⊢
    obtain ⟨A9, c9, rfl, hil⟩ := own_il how
    obtain ⟨n9, hn9⟩ : ∃ n9, L9.length = n9 := ⟨_, rfl⟩
    rw [hn9] at hil hll ⊢
    have HRI := Hd (rising_any wr A9 n9 c9 L9 k hil hll (by omega))
    have HL9 := Hd hL9
    clear hL9 hn9 how HOW
    clear hil
    go_wp2_with (go_at_call 94; refine HRI.out.mono ?_; rintro e w9 ⟨v9, rfl, ho, hb9⟩; have HO9 := Hd ho; have HB9 := Hd hb9; clear ho hb9)
    go_ret
    have hbl := to_ HB0.out HBX.out
    rw [HL9.out]
    exact ⟨v9, rfl, own_lower HO9.out hbl.size, to_ hbl HB9.out⟩
end Go.Proofs.YtdaimeaofgbfpaaGreat.Bo
namespace Go.Proofs.YtdaimeaofgbfpaaGreat.Bo
open Go.RowKit Go.Maps
open Mem Rf
def graphG (P : Pgm) : List (List Int) := (List.range P.fn).map (edgL P)
theorem graphG_len (P : Pgm) : (graphG P).length = P.fn := by unfold graphG; simp
set_option maxRecDepth 100000 in
set_option maxHeartbeats 4000000 in
theorem rgraph_any (w : World) (P : Pgm) (h : PgR w P) :
  Calls Tryz.prog 23 #[pgV P] w (GOwn w (graphG P)) := by
 obtain ⟨iR, hiR, hzR0, hzR1, hzR2⟩ := info_split infoRow
 have hfw := h.few.1
 have HLI := Hd (fun W (hb : Below w.heap.size w W) => rlive_any W P (h.on hb))
 have HTA := Hd (fun W (hb : Below w.heap.size w W) => rtaken_any W P (h.on hb))
 have HF := Hd (fun W (hb : Below w.heap.size w W) (LA TA : Option Addr) (lc tc : Nat) (hL : BL W LA P.fn lc ((List.range P.fn).map (liveB P))) (hT : BL W TA P.fn tc ((List.range P.fn).map (takenB P))) k (hk : k < P.fn) => redges_any W P (h.on hb) LA TA lc tc hL hT k hk)
 have HLEN := Hd (graphG_len P)
 clear h
 unfold graphG
 obtain ⟨L, hL⟩ : ∃ x, edgL P = x := ⟨_, rfl⟩
 rw [hL] at HF ⊢
 obtain ⟨f, hf⟩ : ∃ x, liveB P = x := ⟨_, rfl⟩
 rw [hf] at HF HLI
 obtain ⟨T, hT⟩ : ∃ x, takenB P = x := ⟨_, rfl⟩
 rw [hT] at HF HTA
 clear hL hf hT HLEN
 obtain ⟨fA, fn, fc, fs, dA, dn, dc, ds, en, cs⟩ := P
 unfold pgV at HF HLI HTA ⊢
 unfold IOwn at HF
 dsimp only at HF HLI HTA hfw ⊢
 obtain ⟨W0, hW0⟩ : ∃ W0, w.alloc (.cells #[.slice fA fn fc, .slice dA dn dc, .int .i64 en] 29) = W0 := ⟨_, rfl⟩
 have HB0 := Hd (show Below w.heap.size w W0 from by rw [← hW0]; exact alloc_ _ _)
 have hbk : Blk W0 w.heap.size 29 #[.slice fA fn fc, .slice dA dn dc, .int .i64 en] := by rw [← hW0]; exact Blk.new _ _ _
 have HX := Hd (fun W (hb : Below W0.heap.size W0 W) => show W.cell? ⟨w.heap.size, 0, none⟩ = some (.slice fA fn fc) ∧ W.cell? ⟨w.heap.size, 1, none⟩ = some (.slice dA dn dc) ∧ W.cell? ⟨w.heap.size, 2, none⟩ = some (.int .i64 en) from ⟨(hbk.below hb hbk.lt).cell 0, (hbk.below hb hbk.lt).cell 1, (hbk.below hb hbk.lt).cell 2⟩)
 obtain ⟨c0, c1, c2⟩ := HX.out W0 (Below.refl _ _)
 clear hbk
 unfold GOwn
 go_enter Tryz.func23, Tryz.ntmps23
 go_wp2_with (first | (go_at_call 16; refine (HLI.out W0 HB0.out).mono ?_; rintro e w2 ⟨A2, n2, rfl, hbl, hb2⟩; have HBL := Hd hbl; have HB2 := Hd hb2; clear hbl hb2 hW0 c0 c1 c2; obtain ⟨c0, c1, c2⟩ := HX.out w2 HB2.out) | (go_at_call 18; refine (HTA.out w2 (to_ HB0.out HB2.out)).mono ?_; rintro e w3 ⟨A3, n3, rfl, hbl, hb2⟩; have HBT := Hd hbl; have HB3 := Hd hb2; have HBM := Hd (HBL.out.on hb2); have HB23 := Hd (show Below W0.heap.size W0 w3 from to_ HB2.out hb2); clear hbl hb2 c0 c1 c2))
 go_loopw [5, 6] (fun v9 i9 wr => ∃ k : Nat, k ≤ fn ∧ i9 = .int .i64 (k : Int) ∧ Hid (OutI wr w3.heap.size v9 ((List.range k).map L)) ∧ Hid (Below w3.heap.size w3 wr)) (fun _ i9 _ => fn - (intOf i9).toNat)
 case atStart => exact ⟨0, Nat.zero_le _, rfl, Hd (OutI.nil _ _), Hd (Below.refl _ _)⟩
 case round =>
  obtain ⟨k, hk, rfl, HOU, HBE3⟩ := hrel
  have HBE := Hd (to_ HB23.out HBE3.out)
  obtain ⟨c0, c1, c2⟩ := HX.out wr HBE.out
  have HBW := Hd (to_ HB0.out HBE.out)
  by_cases hlt : k < fn
  ·have hkI : (k : Int) < (fn : Int) := by omega
   obtain ⟨rs, h1, h2, h3⟩ := HOU.out
   have hlen : ((List.range k).map L).length = k := by simp
   rw [hlen] at h1 h2
   have H1 := Hd h1
   have H2 := Hd h2
   have H3 := Hd h3
   have HMN := Hd (map_next L k)
   have HLE := Hd hlen
   have HC := Hd (HF.out wr HBW.out A2 A3 n2 n3 (HBM.out.on HBE3.out) (HBT.out.on HBE3.out) k hlt)
   have HLT := Hd hlt
   clear h1 h2 h3 hlen
   go_wp2_with (go_at_call 55; refine HC.out.mono ?_; rintro e w1 ⟨v1, rfl, ho1, b1⟩; obtain ⟨rA, rc, rfl⟩ := own_form ho1; have HO1 := Hd (own_lower ho1 HBE3.out.size); have HB1 := Hd b1; clear ho1 b1; go_wp2_with (at_builtin; go_loud (refine wpList_append_own _ rfl _ _ 41 rfl w3.heap.size 44 iR (.slice none 0 0) 1 24 Tryz.underlying41 hiR hzR0 hzR1 hzR2 rfl (by decide) _ k rs rfl (own_on H2.out (to_ HB1.out (alloc_ _ _))) ⟨w1.heap.size, 0, none⟩ 1 1 [.slice rA (L k).length rc] rfl rfl (one_new w1 _ 44) (by simp [Value.oneCell']) (by unfold maxLen; omega) (by omega) (by have := HBE3.out.size; have := HB1.out.size; simp; omega) ?_; intro v' w' h2 h3 _; have G2 := Hd h2; have G3 := Hd h3; clear h2 h3)))
   go_roundw
   case rel =>
    refine ⟨k + 1, by have := HLT.out; omega, by go_num, Hd ?_, Hd ?_⟩
    ·rw [HMN.out]
     exact OutI.more (by rw [HLE.out]; exact H1.out) (by rw [HLE.out]; exact own_on H2.out HB1.out) (fun i x hi => own_on (H3.out i x hi) HB1.out) HO1.out (by rw [HLE.out]; exact G2.out) G3.out
    ·exact (to_ HBE3.out (to_ HB1.out (alloc_ _ _))).grown G3.out (to_ HBE3.out (to_ HB1.out (alloc_ _ _))).size fun r e => (H2.out.lt r e).1
   case measure => have := HLT.out; simp [intOf]; omega
  ·obtain rfl : fn = k := by omega
   go_wp2_with fail
   go_ret
   exact ⟨_, rfl, HOU.out.lower (to_ HB0.out HB23.out).size, HBW.out⟩
def calledB (P : Pgm) : Nat → Bool := Gm.reach (graphG P) [P.entry]
set_option maxRecDepth 100000 in
set_option maxHeartbeats 8000000 in
theorem rcalled_any (w : World) (P : Pgm) (h : PgR w P) : Calls Tryz.prog 20 #[pgV P] w (BlD w P.fn (calledB P)) := by
 have HRF := Hd (fun W (hb : Below w.heap.size w W) => rgraph_any W P (h.on hb))
 have HRE := Hd (fun W A c A2 c2 (hg : By.Gr W W.heap.size (.slice A P.fn c) (graphG P)) (hF : SlV W W.heap.size (.slice A2 1 c2) (By.ints [P.entry])) => rreach_one hg (graphG_len P) h.few.1 hF)
 have HLL := Hd (graphG_len P)
 have hfn := h.few.1
 unfold calledB
 generalize hf : Gm.reach (graphG P) [P.entry] = f at HRE ⊢
 generalize graphG P = L at HRF HRE HLL
 clear h hf
 obtain ⟨fA, fn, fc, fs, dA, dn, dc, ds, en, cs⟩ := P
 unfold pgV at HRF ⊢
 dsimp only at HRF HRE HLL hfn ⊢
 obtain ⟨W0, hW0⟩ : ∃ W0, w.alloc (.cells #[.slice fA fn fc, .slice dA dn dc, .int .i64 en] 29) = W0 := ⟨_, rfl⟩
 have HB0 := Hd (show Below w.heap.size w W0 from by rw [← hW0]; exact alloc_ _ _)
 have HBK := Hd (show Blk W0 w.heap.size 29 #[.slice fA fn fc, .slice dA dn dc, .int .i64 en] from by rw [← hW0]; exact Blk.new _ _ _)
 go_enter Tryz.func20, Tryz.ntmps20
 go_wp2_with fail
 clear hW0
 refine wp_region_noPanic ?_
 refine wp_region_held_drew (S := fun W => W.cell? ⟨w.heap.size, 0, none⟩ = some (.slice fA fn fc) ∧ W.cell? ⟨w.heap.size, 1, none⟩ = some (.slice dA dn dc) ∧ W.cell? ⟨w.heap.size, 2, none⟩ = some (.int .i64 en)) (by kernel_rfl) (⟨HBK.out.cell 0, HBK.out.cell 1, HBK.out.cell 2⟩) (fun hHeld => ?_)
 refine tk3Z 0 2 3 hHeld ?_
 refine wpAnyH_ready (rs := [1, 4]) (by kernel_rfl) (by simp) ?_
 refine AllReadyH.cons rfl (fun K hK => ?_) (AllReadyH.cons rfl (fun K hK => ?_) AllReadyH.nil)
 focus
  go_simp
  refine (HRF.out _ HB0.out.drew).mono ?_; rintro e u1 ⟨ov, rfl, ho, hb⟩; obtain ⟨gA, gc, rfl, hgr⟩ := OutI.gr ho; rw [HLL.out] at hgr; rw [HLL.out]; have HG := Hd hgr; have HU := Hd hb; have HBU := Hd (to_ HB0.out.drew hb); clear hgr ho hb
  try go_wp2_with fail
  refine hK.out _ _ ((on3Z hHeld HU.out)) ?_
  clear hK K hHeld
  intro hHeld
  try simp only [Act.put, nmZ]
  refine rd1Z 4 (fun K hK => ?_)
  go_simp
  have HU := Hd (alloc_ (u1) (.cells #[.int .i64 en] 3))
  have HSL := Hd (SlV.new (u1) (By.ints [en]) 3 (by unfold By.ints maxLen; simp))
  refine hK.out _ _ ((on3Z hHeld HU.out)) ?_
  clear hK K hHeld
  intro hHeld
  try simp only [Act.put, nmZ]
  refine rd1Z 5 (fun K hK => ?_)
  go_simp
  refine (HRE.out _ gA gc _ _ ((By.Gr.below HG.out (alloc_ _ _)).more (by simp)) (HSL.out.more (by simp))).mono ?_; rintro e u2 ⟨A2, c2, rfl, hbl, hb⟩; have HU := Hd hb; have HF := Hd hbl; have HBF := Hd (to_ (to_ HBU.out (alloc_ _ _)) hb); clear hbl hb
  try go_wp2_with fail
 rotate_left
 focus
  go_simp
  have HU := Hd (alloc_ (W0.drew) (.cells #[.int .i64 en] 3))
  have HSL := Hd (SlV.new (W0.drew) (By.ints [en]) 3 (by unfold By.ints maxLen; simp))
  refine hK.out _ _ ((on3Z hHeld HU.out)) ?_
  clear hK K hHeld
  intro hHeld
  try simp only [Act.put, nmZ]
  refine rd1Z 1 (fun K hK => ?_)
  go_simp
  refine (HRF.out _ (to_ HB0.out.drew (alloc_ _ _))).mono ?_; rintro e u1 ⟨ov, rfl, ho, hb⟩; obtain ⟨gA, gc, rfl, hgr⟩ := OutI.gr ho; rw [HLL.out] at hgr; rw [HLL.out]; have HG := Hd hgr; have HU := Hd hb; have HBU := Hd (to_ (to_ HB0.out.drew (alloc_ _ _)) hb); clear hgr ho hb
  try go_wp2_with fail
  refine hK.out _ _ ((on3Z hHeld HU.out)) ?_
  clear hK K hHeld
  intro hHeld
  try simp only [Act.put, nmZ]
  refine rd1Z 5 (fun K hK => ?_)
  go_simp
  refine (HRE.out _ gA gc _ _ HG.out ((HSL.out.below (HU.out.mono (by simp))).more (by have h9 := HU.out.size; have h8 : W0.drew.heap.size = W0.heap.size := rfl; simp at h9; omega))).mono ?_; rintro e u2 ⟨A2, c2, rfl, hbl, hb⟩; have HU := Hd hb; have HF := Hd hbl; have HBF := Hd (to_ HBU.out hb); clear hbl hb
  try go_wp2_with fail
 rotate_left
 all_goals
  refine hK.out _ _ ((on3Z hHeld HU.out)) ?_
  clear hK K hHeld
  intro hHeld
  try simp only [Act.put, nmZ]
  refine tk1Z 6 hHeld ?_
  refine wpAnyH_done (by kernel_rfl) ?_ _
  refine NoPanic.normal ?_
  go_wp2_with fail
  go_ret
  exact ⟨A2, c2, rfl, HF.out, HBF.out⟩
end Go.Proofs.YtdaimeaofgbfpaaGreat.Bo
namespace Go.Proofs.YtdaimeaofgbfpaaGreat.Bo
open Go.RowKit Go.Maps
open Mem Rf By
def ocW (w : World) (s0 s1 s2 s3 s4 s5 s6 s7 v : Value) : World := (w.alloc (.cells #[s0, s1, s2, s3, s4, s5, s6, s7] 93)).alloc (.cells #[v] 44)
def ocF (m : Nat) : Value := .func (.func 97) #[] #[.pointer (some ⟨m + 1, 0, none⟩), .pointer (some ⟨m, 0, none⟩)]
set_option maxRecDepth 100000 in
set_option maxHeartbeats 1000000 in
theorem oc_any (w : World) (A0 A1 A2 A3 A4 A5 A6 A7 B : Option Addr) (n0 n1 n2 n3 n4 n5 n6 n7 m c0 c1 c2 c3 c4 c5 c6 c7 d : Nat) :
  Calls Tryz.prog 53 #[.agg #[.slice A0 n0 c0, .slice A1 n1 c1, .slice A2 n2 c2, .slice A3 n3 c3, .slice A4 n4 c4, .slice A5 n5 c5, .slice A6 n6 c6, .slice A7 n7 c7], .slice B m d] w fun e w' => e = .returned (ocF w.heap.size) ∧
   w' = ocW w (.slice A0 n0 c0) (.slice A1 n1 c1) (.slice A2 n2 c2) (.slice A3 n3 c3) (.slice A4 n4 c4) (.slice A5 n5 c5) (.slice A6 n6 c6) (.slice A7 n7 c7) (.slice B m d) := by
 unfold ocW ocF
 go_enter Tryz.func53, Tryz.ntmps53
 go_wp2
 go_ret
 exact ⟨rfl, rfl⟩
end Go.Proofs.YtdaimeaofgbfpaaGreat.Bo
namespace Go.Proofs.YtdaimeaofgbfpaaGreat.Bo
open Go.RowKit Go.Maps
open Mem Rf
set_option maxRecDepth 100000 in
set_option maxHeartbeats 2000000 in
theorem bools26_any (w : World) (A B : Option Addr) (n c d : Nat) (l : List Bool) (hA : BL w A n c l) (hB : BL w B n d l) (hn : n ≤ 1000) :
  Calls Tryz.prog 14 #[.slice A n c, .slice B n d] w fun e w' => e = .returned (.bool true) ∧ Below w.heap.size w w' := by
 have HA := Hd (fun W (hb : Below w.heap.size w W) i (hi : i < n) => (hA.on hb).at_ hi)
 have HB := Hd (fun W (hb : Below w.heap.size w W) i (hi : i < n) => (hB.on hb).at_ hi)
 clear hA hB
 go_enter Tryz.func14, Tryz.ntmps14
 go_wp2_with fail
 go_loopw [5] (fun i wr => ∃ k : Nat, k ≤ n ∧ i = .int .i64 (k : Int) ∧ Below w.heap.size w wr) (fun i _ => n - (intOf i).toNat)
 case atStart => exact ⟨0, Nat.zero_le _, rfl, Below.refl _ _⟩
 case round =>
  obtain ⟨k, hk, rfl, hbel⟩ := hrel
  by_cases hlt : k < n
  ·have hI : (k : Int) < (n : Int) := by omega
   have hk0 : (0 : Int) ≤ (k : Int) := by omega
   obtain ⟨ad, rfl, h1, y1⟩ := HA.out wr hbel k hlt
   obtain ⟨ae, rfl, h2, y2⟩ := HB.out wr hbel k hlt
   obtain ⟨b, hb⟩ : ∃ b, l.getD k false = b := ⟨_, rfl⟩
   rw [hb] at y1 y2
   have HBE := Hd hbel
   clear hb hbel
   cases b <;>
   ·go_wp2_with fail
    go_quiet (fail)
    go_wp2_with fail
    go_roundw
    case rel => exact ⟨k + 1, by omega, by go_num, below_drewN HBE.out _⟩
    case measure => simp [intOf]; omega
  ·obtain rfl : k = n := by omega
   go_wp2_with fail
   go_ret
   exact ⟨rfl, hbel⟩
set_option maxRecDepth 100000 in
set_option maxHeartbeats 8000000 in
theorem called_of (w : World) (P : Pgm) (h : PgR w P) (L : List (List Int)) (hL : L.length = P.fn) (hR : ∀ p, (L.getD p []).length ≤ 24) (hG : ∀ W, Below w.heap.size w W → Calls Tryz.prog 22 #[pgV P] W (RowsA W P.fn L)) : Calls Tryz.prog 19 #[pgV P] w (BlA w P.fn (Gm.reach L [P.entry])) := by
 have HRF := Hd hG
 have HRE := Hd (fun W rb base A2 c2 (hg : By.OwnG W rb base 44 3 L) (hF : SlV W W.heap.size (.slice A2 1 c2) (By.ints [P.entry])) => reach_one hg hL h.few.1 hR hF)
 have hfn := h.few.1
 generalize hf : Gm.reach L [P.entry] = f at HRE ⊢
 clear h hf hG hL hR
 obtain ⟨fA, fn, fc, fs, dA, dn, dc, ds, en, cs⟩ := P
 unfold pgV at HRF ⊢
 dsimp only at HRF HRE hfn ⊢
 obtain ⟨W0, hW0⟩ : ∃ W0, w.alloc (.cells #[.slice fA fn fc, .slice dA dn dc, .int .i64 en] 29) = W0 := ⟨_, rfl⟩
 have HB0 := Hd (show Below w.heap.size w W0 from by rw [← hW0]; exact alloc_ _ _)
 have HBK := Hd (show Blk W0 w.heap.size 29 #[.slice fA fn fc, .slice dA dn dc, .int .i64 en] from by rw [← hW0]; exact Blk.new _ _ _)
 go_enter Tryz.func19, Tryz.ntmps19
 go_wp2_with fail
 clear hW0
 refine wp_region_noPanic ?_
 refine wp_region_held_drew (S := fun W => W.cell? ⟨w.heap.size, 0, none⟩ = some (.slice fA fn fc) ∧ W.cell? ⟨w.heap.size, 1, none⟩ = some (.slice dA dn dc) ∧ W.cell? ⟨w.heap.size, 2, none⟩ = some (.int .i64 en)) (by kernel_rfl) (⟨HBK.out.cell 0, HBK.out.cell 1, HBK.out.cell 2⟩) (fun hHeld => ?_)
 refine tk3Z 0 2 3 hHeld ?_
 refine wpAnyH_ready (rs := [1, 4]) (by kernel_rfl) (by simp) ?_
 refine AllReadyH.cons rfl (fun K hK => ?_) (AllReadyH.cons rfl (fun K hK => ?_) AllReadyH.nil)
 focus
  go_simp
  refine (HRF.out _ HB0.out.drew).mono ?_; rintro e u1 ⟨rb, base, rfl, hg, hrb, hbs, hb⟩; have HG := Hd hg; have HU := Hd hb; have HBU := Hd (to_ HB0.out.drew hb); clear hg hb hrb hbs
  try go_wp2_with fail
  refine hK.out _ _ ((on3Z hHeld HU.out)) ?_
  clear hK K hHeld
  intro hHeld
  try simp only [Act.put, nmZ]
  refine rd1Z 4 (fun K hK => ?_)
  go_simp
  have HU := Hd (alloc_ (u1) (.cells #[.int .i64 en] 3))
  have HSL := Hd (SlV.new (u1) (By.ints [en]) 3 (by unfold By.ints maxLen; simp))
  refine hK.out _ _ ((on3Z hHeld HU.out)) ?_
  clear hK K hHeld
  intro hHeld
  try simp only [Act.put, nmZ]
  refine rd1Z 5 (fun K hK => ?_)
  go_simp
  refine (HRE.out _ rb base _ _ (ownG_on HG.out (alloc_ _ _)) (HSL.out.more (by simp))).mono ?_; rintro e u2 ⟨A2, c2, rfl, hbl, hb, hlo⟩; have HU := Hd hb; have HF := Hd hbl; have HLO := Hd (fun ad e => Nat.le_trans (Below.size (to_ HBU.out (alloc_ _ _))) (hlo ad e)); have HBF := Hd (to_ (to_ HBU.out (alloc_ _ _)) hb); clear hbl hb hlo
  try go_wp2_with fail
 rotate_left
 focus
  go_simp
  have HU := Hd (alloc_ (W0.drew) (.cells #[.int .i64 en] 3))
  have HSL := Hd (SlV.new (W0.drew) (By.ints [en]) 3 (by unfold By.ints maxLen; simp))
  refine hK.out _ _ ((on3Z hHeld HU.out)) ?_
  clear hK K hHeld
  intro hHeld
  try simp only [Act.put, nmZ]
  refine rd1Z 1 (fun K hK => ?_)
  go_simp
  refine (HRF.out _ (to_ HB0.out.drew (alloc_ _ _))).mono ?_; rintro e u1 ⟨rb, base, rfl, hg, hrb, hbs, hb⟩; have HG := Hd hg; have HU := Hd hb; have HBU := Hd (to_ (to_ HB0.out.drew (alloc_ _ _)) hb); clear hg hb hrb hbs
  try go_wp2_with fail
  refine hK.out _ _ ((on3Z hHeld HU.out)) ?_
  clear hK K hHeld
  intro hHeld
  try simp only [Act.put, nmZ]
  refine rd1Z 5 (fun K hK => ?_)
  go_simp
  refine (HRE.out _ rb base _ _ HG.out ((HSL.out.below (HU.out.mono (by simp))).more (by have h9 := HU.out.size; have h8 : W0.drew.heap.size = W0.heap.size := rfl; simp at h9; omega))).mono ?_; rintro e u2 ⟨A2, c2, rfl, hbl, hb, hlo⟩; have HU := Hd hb; have HF := Hd hbl; have HLO := Hd (fun ad e => Nat.le_trans (Below.size HBU.out) (hlo ad e)); have HBF := Hd (to_ HBU.out hb); clear hbl hb hlo
  try go_wp2_with fail
 rotate_left
 all_goals
  refine hK.out _ _ ((on3Z hHeld HU.out)) ?_
  clear hK K hHeld
  intro hHeld
  try simp only [Act.put, nmZ]
  refine tk1Z 6 hHeld ?_
  refine wpAnyH_done (by kernel_rfl) ?_ _
  refine NoPanic.normal ?_
  go_wp2_with fail
  go_ret
  exact ⟨A2, c2, rfl, HF.out, HBF.out, HLO.out⟩
end Go.Proofs.YtdaimeaofgbfpaaGreat.Bo
namespace Go.Proofs.YtdaimeaofgbfpaaGreat.Bo
open Go.RowKit Go.Maps
section
variable {P : Program} {ops : Array Oper} {Q : Exit → Act → World → Prop} {md : Region.Mode}
def unl (l : Array Bool) : Nat := l.toList.countP (fun b => !b)
theorem unl_pos {l : Array Bool} {i : Nat} (h : l.getD i true = false) : i < l.size := by
 rcases Nat.lt_or_ge i l.size with h1 | h1
 ·exact h1
 ·simp [Array.getD, Nat.not_lt.2 h1] at h
theorem cnt_set : ∀ (l : List Bool) (i : Nat), l[i]? = some false → (l.set i true).countP (fun b => !b) + 1 = l.countP (fun b => !b)
 | [], _, h => by simp at h
 | b :: l, 0, h => by
  have : b = false := by simpa using h
  subst this; simp
 | b :: l, i + 1, h => by
  have := cnt_set l i (by simpa using h)
  simp only [List.set_cons_succ, List.countP_cons]
  omega
theorem unl_set {l : Array Bool} {i : Nat} (h : l.getD i true = false) : unl (l.setIfInBounds i true) + 1 = unl l := by
 have h1 := unl_pos h
 unfold unl
 rw [Array.toList_setIfInBounds]
 exact cnt_set _ _ (by
  have h2 : l[i] = false := by simpa [Array.getD, h1] using h
  rw [Array.getElem?_toList, Array.getElem?_eq_getElem h1, h2])
theorem wpAny_inv (I : Array Bool → Act → World → Prop)
  (hstep : ∀ l a w, I l a w → ∀ i o, ops[i]? = some o → l.getD i true = false → (∀ e ∈ o.after, Region.binds md e = true → l.getD e.on false = true) → wpOp P ops Q i (fun a' w' => I (l.setIfInBounds i true) a' w') a w)
  (hend : ∀ l a w, I l a w → Region.ready md ops l = [] → Q .normal a w) :
  ∀ (n : Nat) (l : Array Bool) (a : Act) (w : World), I l a w → unl l ≤ n → wpAny P md ops Q n l a w
 | 0, l, a, w, h, hn => by
  have hr : Region.ready md ops l = [] := by
   refine List.eq_nil_iff_forall_not_mem.2 fun j hj => ?_
   have := unl_set (mem_ready.1 hj).1
   omega
  exact ⟨hr, hend l a w h hr⟩
 | n + 1, l, a, w, h, hn => by
  refine ⟨hend l a w h, fun i hi => ?_⟩
  obtain ⟨h1, o, ho, ha⟩ := mem_ready.1 hi
  refine wpOp_mono (fun a' w' h' => wpAny_inv I hstep hend n _ a' w' h' ?_) (hstep l a w h i o ho h1 ha)
  have := unl_set h1
  omega
theorem ready_end {l : Array Bool} (hb : ∀ j o, ops[j]? = some o → ∀ e ∈ o.after, Region.binds md e = true → e.on < j ∧ l.size = ops.size) (hr : Region.ready md ops l = []) (hs : l.size = ops.size) (j : Nat) : j < ops.size → l.getD j true = true := by
 induction j using Nat.strongRecOn with
 | ind j ih =>
  intro hj
  cases h : l.getD j true with
  | true => rfl
  | false =>
   exfalso
   have hm : j ∈ Region.ready md ops l := mem_ready.2 ⟨h, _, Array.getElem?_eq_getElem hj, fun e he hbe => by
    have h1 := (hb j _ (Array.getElem?_eq_getElem hj) e he hbe).1
    have h2 := ih e.on h1 (by omega)
    have h3 : e.on < l.size := by omega
    simpa [Array.getD, h3] using h2⟩
   rw [hr] at hm
   cases hm
theorem wp_region_inv {id : Nat} {a : Act} {w : World} (hm : P.follows .mixedOrders = true) (I : Array Bool → Act → World → Prop) (h0 : I (Array.replicate ops.size false) a w.drew)
  (hstep : ∀ l a w, I l a w → ∀ i o, ops[i]? = some o → l.getD i true = false → (∀ e ∈ o.after, Region.binds .any e = true → l.getD e.on false = true) → wpOp P ops Q i (fun a' w' => I (l.setIfInBounds i true) a' w') a w)
  (hend : ∀ l a w, I l a w → Region.ready .any ops l = [] → Q .normal a w) : (Code.region id ops true).wp P Q a w :=
 wp_region_any hm (wpAny_inv I hstep hend _ _ _ _ h0 (by unfold unl; exact Nat.le_trans (List.countP_le_length) (by simp)))
end
end Go.Proofs.YtdaimeaofgbfpaaGreat.Bo
namespace Go.Proofs.YtdaimeaofgbfpaaGreat.Bo
open Go.RowKit Go.Maps
open Mem Rf
def RH (X : World) (lo hi : Nat) (F : World → Prop) : Prop := hi ≤ X.heap.size ∧ ∀ Y, Keeps (fun k => lo ≤ k ∧ k < hi) X Y → F Y
theorem RH.now {X : World} {lo hi : Nat} {F : World → Prop} (h : RH X lo hi F) : F X := h.2 X (Keeps.refl _ _)
theorem RH.kept {X Y : World} {lo hi : Nat} {F : World → Prop} (h : RH X lo hi F) (hk : Keeps (fun k => lo ≤ k ∧ k < hi) X Y) : RH Y lo hi F :=
 ⟨Nat.le_trans h.1 hk.size, fun Z hZ => h.2 Z (hk.trans hZ)⟩
theorem RH.below {X Y : World} {lo hi : Nat} {F : World → Prop} (h : RH X lo hi F) (hb : Below X.heap.size X Y) : RH Y lo hi F :=
 h.kept (Keeps.of_below hb (fun k _ hk => hk))
theorem RH.set {X : World} {lo hi p i : Nat} {v : Value} {F : World → Prop} (h : RH X lo hi F) (hp : p < lo ∨ hi ≤ p) : RH (X.setCell ⟨p, i, none⟩ v) lo hi F :=
 h.kept ((Keeps.refl _ X).setCell (by intro hh; simp at hh; omega) _)
theorem RH.box {X : World} {p : Nat} {t : TypeId} {cs : Array Value} (h : Blk X p t cs) : RH X p (p + 1) (fun Y => Blk Y p t cs) :=
 ⟨h.lt, fun Y hY => (hY.block p ⟨Nat.le_refl _, by omega⟩ h.lt).trans h⟩
def fwd (ops : Array Oper) : Bool := (List.range ops.size).all fun j => match ops[j]? with | some o => o.after.toList.all (fun e => decide (e.on < j)) | none => true
theorem fwd_spec {ops : Array Oper} (h : fwd ops = true) {j : Nat} {o : Oper} (ho : ops[j]? = some o) {e : Edge} (he : e ∈ o.after) : e.on < j := by
 have hj := (Array.getElem?_eq_some_iff.1 ho).1
 have h1 := List.all_eq_true.1 h j (List.mem_range.2 hj)
 rw [ho] at h1
 dsimp only at h1
 exact of_decide_eq_true (List.all_eq_true.1 h1 e (by simpa using he))
theorem all_up {md : Region.Mode} {ops : Array Oper} {l : Array Bool} (h : fwd ops = true) (hr : Region.ready md ops l = []) (hs : l.size = ops.size) {j : Nat} (hj : j < ops.size) : l.getD j true = true :=
 ready_end (fun j o ho e he _ => ⟨fwd_spec h ho he, hs⟩) hr hs j hj
end Go.Proofs.YtdaimeaofgbfpaaGreat.Bo
