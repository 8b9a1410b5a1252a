/-
  WALKS of layer 6: the pile's Pop, and forget.
-/
import Derived.Test.YtajlbiohaafpnaaQp
namespace Go.Proofs.Ytajlbiohaafpnaa.Qu
open Go.RowKit Go.Maps
open Mem Hp

/-- delete, as one step of a region that draws. -/
theorem step_delete_own {P : Program} {ops : Array Oper} {o : Oper} {a : Act} {w : World} {K : Act → World → Prop} {Q : Exit → Act → World → Prop} {E : Prop} (hgd : o.guard = none) (m x : Operand) (t k : TypeId)
    (hop : o.op = Op.call { callee := Callee.builtin Builtin.delete, args := #[m, x], argTypes := #[t, k] })
    (e : TypeId) (Kd : Keyed P k) (ht : P.underlying t = some (.map k e)) (R : Value → Option (DataW Unit × List MemPlace)) (b n : Nat) (D : DataW Unit)
    (hm : a.eval m = .map (some b)) (hown : w.ownsMap P k R b n D) (key : Value) (kl : Lit) (hx : a.eval x = key) (hkey : keyOf P k key = some kl)
    (hK : ∀ w', w'.ownsMap P k R b n (D.del kl) → w.mapTurned w' b → K (a.put o.dst (.tuple #[])) w') :
    if Region.wanted o (yielded ops a.tmps) = true then Oper.wp P o a w K Q else E := by
  have hw : Region.wanted o (yielded ops a.tmps) = true := by simp [Region.wanted, hgd]
  rw [if_pos hw]
  obtain ⟨w', hrun, r1, r2⟩ := hown.drop Kd ht hkey o.type
  unfold Oper.wp
  simp [execOp, hop, resolve, invoke, builtin, hm, hx, hrun, Result.andThen]
  exact hK w' r1 r2

theorem pop_end (w : World) (p m g n c : Nat) (D : DataW Unit) (U : Nat → Prop) (f : Nat → It) (o : Obj) (hP : PileAt w p m (.slice (some ⟨g, 0, none⟩) (n + 1) c) D U (n + 1) (n + 1) f) :
    Pile ((w.setCell ⟨p, 0, none⟩ (.slice (some ⟨g, 0, none⟩) n c)).alloc o) p U n (n + 1) f ∧ Tn U w ((w.setCell ⟨p, 0, none⟩ (.slice (some ⟨g, 0, none⟩) n c)).alloc o) := by
  have hgs := hP.gp g rfl
  have hT : Tn U w ((w.setCell ⟨p, 0, none⟩ (.slice (some ⟨g, 0, none⟩) n c)).alloc o) := ((Tn.refl U w).setCell (.inl hP.up) _).alloc o
  refine ⟨⟨m, .slice (some ⟨g, 0, none⟩) n c, D, ?_, ?_, ?_, hP.is, hP.pm, fun g' e => ?_, hP.up, hP.um, fun b hb => Nat.lt_of_lt_of_le (hP.lt b hb) hT.size, hP.inn, by omega, hP.few⟩, hT⟩
  · exact (hP.blk.stored 0 _).alloc o
  · have hr : w.ownsRow 0 53 2 (.slice (some ⟨g, 0, none⟩) n c) n (flatF n f) := by
      have h1 := hP.row
      rcases h1.2 with ⟨h, _⟩ | ⟨g', cap', cur, h, hb, hg, hnc, hcm, hcs, htake⟩
      · cases h
      · simp only [Value.slice.injEq, Option.some.injEq, Addr.mk.injEq, and_true, true_and] at h
        obtain ⟨rfl, rfl⟩ := h
        refine ⟨flat_len n f, .inr ⟨g, c, cur, rfl, hb, hg, by omega, hcm, hcs, ?_⟩⟩
        rw [← flat_take (n + 1) n f (by omega), ← htake, List.take_take, Nat.min_eq_left (by omega)]
    exact (hr.kept (only_set (only_refl _ p) 0 _) (.inr (fun e => hgs.1 (by injection e)))).alloc o
  · exact (hP.map.setCell (a := ⟨p, 0, none⟩) (Ne.symm hP.pm) _).alloc o
  · obtain rfl := Option.some.inj e
    exact hgs

set_option maxHeartbeats 4000000 in
set_option maxRecDepth 100000 in
theorem pop_any (w : World) (p : Nat) (U : Nat → Prop) (n : Nat) (f : Nat → It) (h : Pile w p U (n + 1) (n + 1) f) :
    Calls Try.prog 43 #[.pointer (some ⟨p, 0, none⟩)] w fun e w' => e = .returned (.iface 53 (.agg #[.int .i64 (f n).1, .int .i64 (f n).2])) ∧ Pile w' p U n (n + 1) f ∧ Tn U w w' := by
  obtain ⟨m, v, D, h⟩ := h
  obtain ⟨g, c, rfl⟩ := h.there (by omega)
  have c0 : w.cell? ⟨p, 0, none⟩ = some (.slice (some ⟨g, 0, none⟩) (n + 1) c) := by rw [h.blk.cell]; rfl
  have z0 : w.frozen? ⟨p, 0, none⟩ = false := h.blk.frozen 0
  have r0 : w.cell? ⟨g, n * 2, none⟩ = some (.int .i64 (f n).1) := by rw [h.row.cellAt _ (by omega), flat_id (n + 1) f n (by omega)]
  have r1 : w.cell? ⟨g, n * 2 + 1, none⟩ = some (.int .i64 (f n).2) := by rw [h.row.cellAt _ (by omega), flat_key (n + 1) f n (by omega)]
  have HE := Lib.hid (pop_end w p m g n c D U f (.cells #[.int .i64 (f n).1, .int .i64 (f n).2] 53) h)
  have few := h.few
  have hcap : n + 1 ≤ c ∧ c ≤ 9223372036854775807 := by
    rcases h.row.2 with ⟨hh, _⟩ | ⟨g', cap', cur, hh, _, _, hnc, hcm, _⟩
    · cases hh
    · simp only [Value.slice.injEq, Option.some.injEq, Addr.mk.injEq, and_true, true_and] at hh
      obtain ⟨rfl, rfl⟩ := hh
      unfold maxLen at hcm
      exact ⟨hnc, hcm⟩
  obtain ⟨hc1, hc2⟩ := hcap
  have lp := h.lt p h.up
  generalize (f n).1 = a at *
  generalize (f n).2 = b at *
  clear h
  go_enter Try.func43, Try.ntmps43
  go_wp2_with fail
  go_ret
  exact ⟨rfl, HE.out⟩

set_option maxHeartbeats 4000000 in
set_option maxRecDepth 100000 in
theorem forget_any (w : World) (p : Nat) (U : Nat → Prop) (n : Nat) (f : Nat → It) (h : Pile w p U n (n + 1) f) :
    Calls Try.prog 20 #[.pointer (some ⟨p, 0, none⟩), .iface 53 (.agg #[.int .i64 (f n).1, .int .i64 (f n).2])] w fun e w' => e = .returned (.agg #[.int .i64 (f n).1, .int .i64 (f n).2]) ∧ Pile w' p U n n f ∧ Tn U w w' := by
  obtain ⟨m, v, D, h⟩ := h
  obtain ⟨q, hq⟩ : ∃ q, w.heap.size = q := ⟨_, rfl⟩
  obtain ⟨W0, hW0⟩ : ∃ W0, (w.alloc (.cells #[.int .i64 0, .int .i64 0] 53)).alloc (.cells #[.int .i64 (f n).1, .int .i64 (f n).2] 53) = W0 := ⟨_, rfl⟩
  have h0 : PileAt W0 p m v D U n (n + 1) f := by
    rw [← hW0]; exact h.below (((Below.refl _ _).alloc (Nat.le_refl _) _).alloc (by simp) _)
  have q0 : Blk W0 q 53 #[.int .i64 0, .int .i64 0] := by rw [← hW0, ← hq]; exact (Blk.new _ _ _).alloc _
  have q1 : Blk W0 (q + 1) 53 #[.int .i64 (f n).1, .int .i64 (f n).2] := by
    rw [← hW0, ← hq]
    have := Blk.new (w.alloc (.cells #[.int .i64 0, .int .i64 0] 53)) 53 #[.int .i64 (f n).1, .int .i64 (f n).2]
    rwa [show (w.alloc (.cells #[.int .i64 0, .int .i64 0] 53)).heap.size = w.heap.size + 1 by simp] at this
  have T0 : Tn U w W0 := by rw [← hW0]; exact ((Tn.refl U w).alloc _).alloc _
  have hpq : p < q := hq ▸ h.lt p h.up
  have hmq : m < q := hq ▸ h.lt m h.um
  have HQ := Lib.hid hq
  have HLT := Lib.hid h.lt
  have HT0 := Lib.hid T0
  have HP := Lib.hid h0
  have HQ0 := Lib.hid q0
  have HQ1 := Lib.hid q1
  have HIN := Lib.hid (h.inn n (by omega)).1
  have c1 : W0.cell? ⟨p, 1, none⟩ = some (.map (some m)) := by rw [h0.blk.cell]; rfl
  have e0 : W0.cell? ⟨q + 1, 0, none⟩ = some (.int .i64 (f n).1) := by rw [q1.cell]; rfl
  have HM : Hid (W0.drew.ownsMap Try.prog 3 (plainElem Try.prog 3) m (n + 1) D) := Lib.hid h0.map
  have HIS := Lib.hid (h.is.del (h.map.tidy law))
  have few := h.few
  generalize f n = x at *
  obtain ⟨a, b⟩ := x
  clear h h0 q0 q1 T0
  have hta := asserts
  go_enter Try.func20, Try.ntmps20
  go_wp2_with fail
  go_region_law (refine step_delete_own (by rfl) _ _ _ _ (by rfl) 3 law Try.underlying48 (plainElem Try.prog 3) m (n + 1) D (by rfl) HM.out (.int .i64 a) (kid a) (by rfl) (keyOf_int_mk Try.underlying3 (wf64 HIN.out)) ?_; intro w1 hown hturn)
  all_goals
    have hm1 := tight hown HIS.out.size
    have HB1 := Lib.hid (blk_turned (w := W0.drew) HP.out.blk hturn HP.out.pm)
    have HR1 := Lib.hid (row_turned (w := W0.drew) HP.out.row hturn (fun g hg => (HP.out.gp g hg).2.1))
    have HM1 := Lib.hid hm1
    have HT1 := Lib.hid ((HT0.out.drewN 1).by_only hturn.grown (.inl HP.out.um))
    have B0 := blk_turned (w := W0.drew) HQ0.out hturn (by omega)
    have B1 := blk_turned (w := W0.drew) HQ1.out hturn (by omega)
    have k0 : w1.cell? ⟨q + 1, 0, none⟩ = some (.int .i64 a) := by rw [B1.cell]; rfl
    have k1 : w1.cell? ⟨q + 1, 1, none⟩ = some (.int .i64 b) := by rw [B1.cell]; rfl
    have k2 : w1.cell? ⟨q, 0, none⟩ = some (.int .i64 0) := by rw [B0.cell]; rfl
    have k3 : w1.cell? ⟨q, 1, none⟩ = some (.int .i64 0) := by rw [B0.cell]; rfl
    have k4 := B0.frozen 0
    have k5 := B0.frozen 1
    have k6 : (w1.setCell ⟨q, 0, none⟩ (.int .i64 a)).cell? ⟨q, 0, none⟩ = some (.int .i64 a) := by
      have := Blk.cell (B0.stored 0 (.int .i64 a)) 0
      simpa using this
    have k7 : ((w1.setCell ⟨q, 0, none⟩ (.int .i64 a)).setCell ⟨q, 1, none⟩ (.int .i64 b)).cell? ⟨q, 1, none⟩ = some (.int .i64 b) := by
      have := Blk.cell ((B0.stored 0 (.int .i64 a)).stored 1 (.int .i64 b)) 1
      simpa using this
    clear B0 B1 hm1 hown hturn c1 e0
    go_wp2_with fail
    refine bodyPost_ret (v := .agg #[.int .i64 a, .int .i64 b]) (by simp [results, Try.results20, go_sem, k6, k7]) rfl ?_
    have hTe : Tn U w ((w1.setCell ⟨q, 0, none⟩ (.int .i64 a)).setCell ⟨q, 1, none⟩ (.int .i64 b)) :=
      (HT1.out.setCell (p := ⟨q, 0, none⟩) (.inr (by rw [HQ.out]; exact Nat.le_refl _)) _).setCell (p := ⟨q, 1, none⟩) (.inr (by rw [HQ.out]; exact Nat.le_refl _)) _
    refine ⟨rfl, ⟨m, v, _, ?_, ?_, ?_, HIS.out, HP.out.pm, HP.out.gp, HP.out.up, HP.out.um, fun b hb => ?_, fun k hk => HP.out.inn k (by omega), Nat.le_refl _, by omega⟩, hTe⟩
    · exact (HB1.out.only (only_set (only_refl _ _) _ _) (by omega)).only (only_set (only_refl _ _) _ _) (by omega)
    · have hne : ∀ g, v.ownBlock = some g → g < q := fun g hg => by
        rw [← HQ.out]; exact HLT.out g (HP.out.gp g hg).2.2
      have hk : v.ownBlock = none ∨ v.ownBlock ≠ some q := by
        cases hv : v.ownBlock with
        | none => exact .inl rfl
        | some g => exact .inr (fun e => by injection e with e; have := hne g hv; omega)
      exact (HR1.out.kept (only_set (only_refl _ _) _ _) hk).kept (only_set (only_refl _ _) _ _) hk
    · exact (HM1.out.setCell (a := ⟨q, 0, none⟩) (show m ≠ q by omega) _).setCell (a := ⟨q, 1, none⟩) (show m ≠ q by omega) _
    · exact Nat.lt_of_lt_of_le (HLT.out b hb) hTe.size
end Go.Proofs.Ytajlbiohaafpnaa.Qu
