/-
  WALKS of layer 6: the pile's Push, Pop, forget. WALKS of layer 6: the pile's Pop, and forget.
-/
import Derived.Test.YtlfgnoicjogfpaaQw
import Derived.Deep.AppendLies
import Derived.Deep.RegionLaw
namespace Go.Proofs.Ytlfgnoicjogfpaa.Qu
open Go.RowKit Go.Maps
open Mem Hp

/-- An assertion that holds. -/
theorem asserts (w : World) (v : Value) : (Instr.typeAssert (.iface 161 v) 20 161 false).run Try.prog w = .ok v w := by
  simp [Instr.typeAssert, run_underlying Try.underlying161]

theorem infoW : (Try.prog.info? 161).map (fun i => (i.zero, i.size, i.bytes)) = some (some (.agg #[.int .i64 0, .int .i64 0]), 2, 16) := by kernel_rfl

theorem upd_old {n : Nat} (f : Nat → It) (x : It) : ∀ k, k < n → (fun k => if k = n then x else f k) k = f k := fun k hk => by
  show (if k = n then x else f k) = f k
  rw [if_neg (by omega)]
theorem upd_new {n : Nat} (f : Nat → It) (x : It) : (fun k => if k = n then x else f k) n = x := by
  show (if n = n then x else f n) = x
  rw [if_pos rfl]

theorem Tn.by_row {U : Nat → Prop} {a b c : World} (h : Tn U a b) {row : Option Nat} (k : b.grownBy c row) (hg : ∀ g, row = some g → U g ∨ a.heap.size ≤ g) : Tn U a c := by
  cases row with
  | none => exact h.by_none k
  | some g => exact h.by_only k (hg g rfl)

/-- Behind the append and the store. -/
theorem push_end (w W1 w1 : World) (p m g n c cap : Nat) (A : Option Addr) (D D' : DataW Unit) (U : Nat → Prop) (f fn : Nat → It) (o : Obj) (xs : List Value) (hP : PileAt w p m (.slice A n c) D U n n f)
    (hB : Blk w1 p 168 #[.slice A n c, .map (some m)]) (hM : W1.ownsMap Try.prog 3 (plainElem Try.prog 3) m (n + 1) D') (hT : Tn U w W1)
    (hgrow : (W1.drew.alloc o).grownBy w1 (Value.slice A n c).ownBlock) (hown : w1.ownsRow 0 161 2 (.slice (some ⟨g, 0, none⟩) (n + 1) cap) (n + 1) xs) (hxs : xs = flatF (n + 1) fn)
    (hat : (Value.slice A n c).ownBlock = some g ∨ g = W1.heap.size + 1) (hlt : g < w1.heap.size) (hIS : MapIs D' (n + 1) fn) (hIN : ∀ k, k < n + 1 → In64 (fn k).1 ∧ In64 (fn k).2) (hn : n < 1000) :
    Pile (w1.setCell ⟨p, 0, none⟩ (.slice (some ⟨g, 0, none⟩) (n + 1) cap)) p (Gr U w (w1.setCell ⟨p, 0, none⟩ (.slice (some ⟨g, 0, none⟩) (n + 1) cap))) (n + 1) (n + 1) fn ∧ Tn U w (w1.setCell ⟨p, 0, none⟩ (.slice (some ⟨g, 0, none⟩) (n + 1) cap)) := by
  subst hxs
  have hgs : g ≠ p ∧ g ≠ m ∧ (U g ∨ w.heap.size ≤ g) := by
    rcases hat with h | h
    · exact ⟨(hP.gp g h).1, (hP.gp g h).2.1, .inl (hP.gp g h).2.2⟩
    · have h1 := hP.lt p hP.up
      have h2 := hP.lt m hP.um
      have h3 := hT.size
      exact ⟨by omega, by omega, .inr (by omega)⟩
  have hmrow : some m ≠ (Value.slice A n c).ownBlock := fun e => (hP.gp m e.symm).2.1 rfl
  have hT2 : Tn U w (w1.setCell ⟨p, 0, none⟩ (.slice (some ⟨g, 0, none⟩) (n + 1) cap)) :=
    (((hT.drewN 1).alloc o).by_row hgrow (fun g' e => .inl (hP.gp g' e).2.2)).setCell (.inl hP.up) _
  have hsz : (w1.setCell ⟨p, 0, none⟩ (.slice (some ⟨g, 0, none⟩) (n + 1) cap)).heap.size = w1.heap.size := by simp [World.setCell]
  refine ⟨⟨m, .slice (some ⟨g, 0, none⟩) (n + 1) cap, D', ?_, ?_, ?_, hIS, hP.pm, ?_, .inl hP.up, .inl hP.um, ?_, hIN, Nat.le_refl _, by omega⟩, hT2⟩
  · exact hB.stored 0 _
  · exact hown.kept (only_set (only_refl w1 p) 0 _) (.inr (fun e => hgs.1 (by injection e)))
  · exact ((World.ownsMap.alloc (w := W1.drew) hM o).kept hgrow hmrow).setCell (a := ⟨p, 0, none⟩) (Ne.symm hP.pm) _
  · intro g' e
    obtain rfl := Option.some.inj e
    refine ⟨hgs.1, hgs.2.1, ?_⟩
    rcases hgs.2.2 with h | h
    · exact .inl h
    · exact .inr ⟨h, by rw [hsz]; exact hlt⟩
  · rintro b (h | h)
    · exact Nat.lt_of_lt_of_le (hP.lt b h) hT2.size
    · exact h.2

set_option maxHeartbeats 4000000 in
set_option maxRecDepth 100000 in
theorem push_any (w : World) (p : Nat) (U : Nat → Prop) (n : Nat) (f : Nat → It) (h : Pile w p U n n f) (x : It) (hx : In64 x.1 ∧ In64 x.2) (hn : n < 1000) (hnew : ∀ k, k < n → (f k).1 ≠ x.1) :
    Calls Try.prog 192 #[.pointer (some ⟨p, 0, none⟩), .iface 161 (.agg #[.int .i64 x.1, .int .i64 x.2])] w fun e w' => e = .returned (.tuple #[]) ∧ Pile w' p (Gr U w w') (n + 1) (n + 1) (fun k => if k = n then x else f k) ∧ Tn U w w' := by
  obtain ⟨m, v, D, h⟩ := h
  obtain ⟨A, c, rfl⟩ := h.form
  obtain ⟨q, hq⟩ : ∃ q, w.heap.size = q := ⟨_, rfl⟩
  have HQ := Lib.hid hq
  have hpq : p < q := hq ▸ h.lt p h.up
  have hmq : m < q := hq ▸ h.lt m h.um
  obtain ⟨W0, hW0⟩ : ∃ W0, w.alloc (.cells #[.int .i64 x.1, .int .i64 x.2] 161) = W0 := ⟨_, rfl⟩
  have hq0 : Blk W0 q 161 #[.int .i64 x.1, .int .i64 x.2] := by rw [← hW0, ← hq]; exact Blk.new _ _ _
  have T0 : Tn U w W0 := by rw [← hW0]; exact (Tn.refl U w).alloc _
  have h0 : PileAt W0 p m (.slice A n c) D U n n f := by
    rw [← hW0]; exact h.below ((Below.refl _ _).alloc (Nat.le_refl _) _)
  have HW0 := Lib.hid hW0
  have c0 : W0.cell? ⟨p, 0, none⟩ = some (.slice A n c) := by rw [h0.blk.cell]; rfl
  have c1 : W0.cell? ⟨p, 1, none⟩ = some (.map (some m)) := by rw [h0.blk.cell]; rfl
  have q0 : W0.cell? ⟨q, 0, none⟩ = some (.int .i64 x.1) := by rw [hq0.cell]; rfl
  obtain ⟨W1, hrun, hmap1, hturn⟩ := stored W0.drew m n D h0.map (by omega) x.1 hx.1 n (by omega)
  have hpm := h.pm
  have B1 : Blk W1 p 168 #[.slice A n c, .map (some m)] := blk_turned (w := W0.drew) h0.blk hturn hpm
  have R1 : W1.ownsRow 0 161 2 (.slice A n c) n (flatF n f) := row_turned (w := W0.drew) h0.row hturn (fun g hg => (h.gp g hg).2.1)
  have Q1 : Blk W1 q 161 #[.int .i64 x.1, .int .i64 x.2] := blk_turned (w := W0.drew) hq0 hturn (by omega)
  have HT1 := Lib.hid ((T0.drewN 1).by_only hturn.grown (.inl h.um))
  have d0 : W1.cell? ⟨p, 0, none⟩ = some (.slice A n c) := by rw [B1.cell]; rfl
  have d1 : W1.cell? ⟨p, 1, none⟩ = some (.map (some m)) := by rw [B1.cell]; rfl
  have dz : W1.frozen? ⟨p, 0, none⟩ = false := B1.frozen 0
  have e0 : W1.cell? ⟨q, 0, none⟩ = some (.int .i64 x.1) := by rw [Q1.cell]; rfl
  have e1 : W1.cell? ⟨q, 1, none⟩ = some (.int .i64 x.2) := by rw [Q1.cell]; rfl
  have HP := Lib.hid h
  have HNE : Hid (some p ≠ (Value.slice A n c).ownBlock) := Lib.hid (fun e => (h.gp p e.symm).1 rfl)
  have HB1 := Lib.hid B1
  have HR1 := Lib.hid R1
  have HM1 := Lib.hid hmap1
  have HIS := Lib.hid (h.is.put (g := fun k => if k = n then x else f k) (h.map.tidy law) x hnew (upd_old f x) (upd_new f x))
  have HIN : Hid (∀ k, k < n + 1 → In64 ((fun k => if k = n then x else f k) k).1 ∧ In64 ((fun k => if k = n then x else f k) k).2) := Lib.hid (fun k hk => by
    show In64 (if k = n then x else f k).1 ∧ In64 (if k = n then x else f k).2
    by_cases hkn : k = n
    · rw [if_pos hkn]; exact hx
    · rw [if_neg hkn]; exact h.inn k (by omega))
  have HFL : Hid (flatF n f ++ [.int .i64 x.1, .int .i64 x.2] = flatF (n + 1) (fun k => if k = n then x else f k)) := Lib.hid (flat_snoc n f _ x (upd_old f x) (upd_new f x))
  have hl1 : p < W1.heap.size := World.block_lt_of_cell? W1 _ d0
  have hta := asserts
  obtain ⟨i0, hi, hz0, hz1, hz2⟩ := info_parts infoW
  generalize (fun k => if k = n then x else f k) = fn at HIS HIN HFL ⊢
  obtain ⟨a, b⟩ := x
  clear h h0 T0 hx hnew B1 R1 Q1 hmap1 hturn hq0
  go_enter Try.func192, Try.ntmps192
  go_wp2_with fail
  clear hW0 hq
  go_region_held3 (fun w' => w'.cell? ⟨p, 0, none⟩ = some (.slice A n c) ∧ w'.cell? ⟨p, 1, none⟩ = some (.map (some m)) ∧ w'.cell? ⟨q, 0, none⟩ = some (.int .i64 a)) (first | go_keep | exact ⟨d0, d1, e0⟩) (fail)
  clear hrun c0 c1 q0
  go_wp2_with fail
  go_region_law (refine step_append_lies _ (by rfl) _ _ _ (by rfl) 0 161 i0 (.agg #[.int .i64 0, .int .i64 0]) 2 16 Try.underlying165 hi hz0 hz1 hz2 (by rfl) (by omega) (.slice A n c) n (flatF n f) (by rfl) (World.ownsRow.alloc (w := W1.drew) HR1.out _) ⟨W1.heap.size, 0, none⟩ 1 1 [.int .i64 a, .int .i64 b] (by rfl) (by rfl) (by exact World.news_of_block (heap_alloc_new _ _)) (by simp [Value.oneCell']) (by omega) (by unfold maxLen; omega) (by omega) (by omega) (W1.heap.size + 1) (by simp) ?_; intro g cap w1 hown hgrow hat hlt; have hB1 := (hgrow.block p (by simp; omega) HNE.out).trans (Blk.alloc (w := W1.drew) HB1.out _); have k0 : w1.cell? ⟨p, 0, none⟩ = some (.slice A n c) := Blk.cell hB1 0; have k1 : w1.frozen? ⟨p, 0, none⟩ = false := Blk.frozen hB1 0)
  all_goals
    have HE := Lib.hid (push_end w W1 w1 p m g n c cap A D _ U f fn _ _ HP.out hB1 HM1.out HT1.out hgrow hown HFL.out hat hlt HIS.out HIN.out hn)
    clear hown hgrow hat hB1
    go_wp2_with fail
    go_end0
    exact ⟨rfl, HE.out⟩
end Go.Proofs.Ytlfgnoicjogfpaa.Qu

namespace Go.Proofs.Ytlfgnoicjogfpaa.Qu
open Go.RowKit Go.Maps
open Mem Hp

/-- delete, as one step of a region that draws. -/
theorem step_delete_own {P : Program} {ops : Array Oper} {o : Oper} {a : Act} {w : World} {K : Act → World → Prop} {Q : Exit → Act → World → Prop} {E : Prop} (hgd : o.guard = none) (m x : Operand) (t k : TypeId)
    (hop : o.op = Op.call { callee := Callee.builtin Builtin.delete, args := #[m, x], argTypes := #[t, k] })
    (e : TypeId) (Kd : Keyed P k) (ht : P.underlying t = some (.map k e)) (R : Value → Option (DataW Unit × List MemPlace)) (b n : Nat) (D : DataW Unit)
    (hm : a.eval m = .map (some b)) (hown : w.ownsMap P k R b n D) (key : Value) (kl : Lit) (hx : a.eval x = key) (hkey : keyOf P k key = some kl)
    (hK : ∀ w', w'.ownsMap P k R b n (D.del kl) → w.mapTurned w' b → K (a.put o.dst (.tuple #[])) w') :
    if Region.wanted o (yielded ops a.tmps) = true then Oper.wp P o a w K Q else E := by
  have hw : Region.wanted o (yielded ops a.tmps) = true := by simp [Region.wanted, hgd]
  rw [if_pos hw]
  obtain ⟨w', hrun, r1, r2⟩ := hown.drop Kd ht hkey o.type
  unfold Oper.wp
  simp [execOp, hop, resolve, invoke, builtin, hm, hx, hrun, Result.andThen]
  exact hK w' r1 r2

theorem pop_end (w : World) (p m g n c : Nat) (D : DataW Unit) (U : Nat → Prop) (f : Nat → It) (o : Obj) (hP : PileAt w p m (.slice (some ⟨g, 0, none⟩) (n + 1) c) D U (n + 1) (n + 1) f) :
    Pile ((w.setCell ⟨p, 0, none⟩ (.slice (some ⟨g, 0, none⟩) n c)).alloc o) p U n (n + 1) f ∧ Tn U w ((w.setCell ⟨p, 0, none⟩ (.slice (some ⟨g, 0, none⟩) n c)).alloc o) := by
  have hgs := hP.gp g rfl
  have hT : Tn U w ((w.setCell ⟨p, 0, none⟩ (.slice (some ⟨g, 0, none⟩) n c)).alloc o) := ((Tn.refl U w).setCell (.inl hP.up) _).alloc o
  refine ⟨⟨m, .slice (some ⟨g, 0, none⟩) n c, D, ?_, ?_, ?_, hP.is, hP.pm, fun g' e => ?_, hP.up, hP.um, fun b hb => Nat.lt_of_lt_of_le (hP.lt b hb) hT.size, hP.inn, by omega, hP.few⟩, hT⟩
  · exact (hP.blk.stored 0 _).alloc o
  · have hr : w.ownsRow 0 161 2 (.slice (some ⟨g, 0, none⟩) n c) n (flatF n f) := by
      have h1 := hP.row
      rcases h1.2 with ⟨h, _⟩ | ⟨g', cap', cur, h, hb, hg, hnc, hcm, hcs, htake⟩
      · cases h
      · simp only [Value.slice.injEq, Option.some.injEq, Addr.mk.injEq, and_true, true_and] at h
        obtain ⟨rfl, rfl⟩ := h
        refine ⟨flat_len n f, .inr ⟨g, c, cur, rfl, hb, hg, by omega, hcm, hcs, ?_⟩⟩
        rw [← flat_take (n + 1) n f (by omega), ← htake, List.take_take, Nat.min_eq_left (by omega)]
    exact (hr.kept (only_set (only_refl _ p) 0 _) (.inr (fun e => hgs.1 (by injection e)))).alloc o
  · exact (hP.map.setCell (a := ⟨p, 0, none⟩) (Ne.symm hP.pm) _).alloc o
  · obtain rfl := Option.some.inj e
    exact hgs

set_option maxHeartbeats 4000000 in
set_option maxRecDepth 100000 in
theorem pop_any (w : World) (p : Nat) (U : Nat → Prop) (n : Nat) (f : Nat → It) (h : Pile w p U (n + 1) (n + 1) f) :
    Calls Try.prog 191 #[.pointer (some ⟨p, 0, none⟩)] w fun e w' => e = .returned (.iface 161 (.agg #[.int .i64 (f n).1, .int .i64 (f n).2])) ∧ Pile w' p U n (n + 1) f ∧ Tn U w w' := by
  obtain ⟨m, v, D, h⟩ := h
  obtain ⟨g, c, rfl⟩ := h.there (by omega)
  have c0 : w.cell? ⟨p, 0, none⟩ = some (.slice (some ⟨g, 0, none⟩) (n + 1) c) := by rw [h.blk.cell]; rfl
  have z0 : w.frozen? ⟨p, 0, none⟩ = false := h.blk.frozen 0
  have r0 : w.cell? ⟨g, n * 2, none⟩ = some (.int .i64 (f n).1) := by rw [h.row.cellAt _ (by omega), flat_id (n + 1) f n (by omega)]
  have r1 : w.cell? ⟨g, n * 2 + 1, none⟩ = some (.int .i64 (f n).2) := by rw [h.row.cellAt _ (by omega), flat_key (n + 1) f n (by omega)]
  have HE := Lib.hid (pop_end w p m g n c D U f (.cells #[.int .i64 (f n).1, .int .i64 (f n).2] 161) h)
  have few := h.few
  have hcap : n + 1 ≤ c ∧ c ≤ 9223372036854775807 := by
    rcases h.row.2 with ⟨hh, _⟩ | ⟨g', cap', cur, hh, _, _, hnc, hcm, _⟩
    · cases hh
    · simp only [Value.slice.injEq, Option.some.injEq, Addr.mk.injEq, and_true, true_and] at hh
      obtain ⟨rfl, rfl⟩ := hh
      unfold maxLen at hcm
      exact ⟨hnc, hcm⟩
  obtain ⟨hc1, hc2⟩ := hcap
  have lp := h.lt p h.up
  generalize (f n).1 = a at *
  generalize (f n).2 = b at *
  clear h
  go_enter Try.func191, Try.ntmps191
  go_wp2_with fail
  go_ret
  exact ⟨rfl, HE.out⟩

set_option maxHeartbeats 4000000 in
set_option maxRecDepth 100000 in
theorem forget_any (w : World) (p : Nat) (U : Nat → Prop) (n : Nat) (f : Nat → It) (h : Pile w p U n (n + 1) f) :
    Calls Try.prog 137 #[.pointer (some ⟨p, 0, none⟩), .iface 161 (.agg #[.int .i64 (f n).1, .int .i64 (f n).2])] w fun e w' => e = .returned (.agg #[.int .i64 (f n).1, .int .i64 (f n).2]) ∧ Pile w' p U n n f ∧ Tn U w w' := by
  obtain ⟨m, v, D, h⟩ := h
  obtain ⟨q, hq⟩ : ∃ q, w.heap.size = q := ⟨_, rfl⟩
  obtain ⟨W0, hW0⟩ : ∃ W0, (w.alloc (.cells #[.int .i64 0, .int .i64 0] 161)).alloc (.cells #[.int .i64 (f n).1, .int .i64 (f n).2] 161) = W0 := ⟨_, rfl⟩
  have h0 : PileAt W0 p m v D U n (n + 1) f := by
    rw [← hW0]; exact h.below (((Below.refl _ _).alloc (Nat.le_refl _) _).alloc (by simp) _)
  have q0 : Blk W0 q 161 #[.int .i64 0, .int .i64 0] := by rw [← hW0, ← hq]; exact (Blk.new _ _ _).alloc _
  have q1 : Blk W0 (q + 1) 161 #[.int .i64 (f n).1, .int .i64 (f n).2] := by
    rw [← hW0, ← hq]
    have := Blk.new (w.alloc (.cells #[.int .i64 0, .int .i64 0] 161)) 161 #[.int .i64 (f n).1, .int .i64 (f n).2]
    rwa [show (w.alloc (.cells #[.int .i64 0, .int .i64 0] 161)).heap.size = w.heap.size + 1 by simp] at this
  have T0 : Tn U w W0 := by rw [← hW0]; exact ((Tn.refl U w).alloc _).alloc _
  have hpq : p < q := hq ▸ h.lt p h.up
  have hmq : m < q := hq ▸ h.lt m h.um
  have HQ := Lib.hid hq
  have HLT := Lib.hid h.lt
  have HT0 := Lib.hid T0
  have HP := Lib.hid h0
  have HQ0 := Lib.hid q0
  have HQ1 := Lib.hid q1
  have HIN := Lib.hid (h.inn n (by omega)).1
  have c1 : W0.cell? ⟨p, 1, none⟩ = some (.map (some m)) := by rw [h0.blk.cell]; rfl
  have e0 : W0.cell? ⟨q + 1, 0, none⟩ = some (.int .i64 (f n).1) := by rw [q1.cell]; rfl
  have HM : Hid (W0.drew.ownsMap Try.prog 3 (plainElem Try.prog 3) m (n + 1) D) := Lib.hid h0.map
  have HIS := Lib.hid (h.is.del (h.map.tidy law))
  have few := h.few
  generalize f n = x at *
  obtain ⟨a, b⟩ := x
  clear h h0 q0 q1 T0
  have hta := asserts
  go_enter Try.func137, Try.ntmps137
  go_wp2_with fail
  go_region_law (refine step_delete_own (by rfl) _ _ _ _ (by rfl) 3 law Try.underlying166 (plainElem Try.prog 3) m (n + 1) D (by rfl) HM.out (.int .i64 a) (kid a) (by rfl) (keyOf_int_mk Try.underlying3 (wf64 HIN.out)) ?_; intro w1 hown hturn)
  all_goals
    have hm1 := tight hown HIS.out.size
    have HB1 := Lib.hid (blk_turned (w := W0.drew) HP.out.blk hturn HP.out.pm)
    have HR1 := Lib.hid (row_turned (w := W0.drew) HP.out.row hturn (fun g hg => (HP.out.gp g hg).2.1))
    have HM1 := Lib.hid hm1
    have HT1 := Lib.hid ((HT0.out.drewN 1).by_only hturn.grown (.inl HP.out.um))
    have B0 := blk_turned (w := W0.drew) HQ0.out hturn (by omega)
    have B1 := blk_turned (w := W0.drew) HQ1.out hturn (by omega)
    have k0 : w1.cell? ⟨q + 1, 0, none⟩ = some (.int .i64 a) := by rw [B1.cell]; rfl
    have k1 : w1.cell? ⟨q + 1, 1, none⟩ = some (.int .i64 b) := by rw [B1.cell]; rfl
    have k2 : w1.cell? ⟨q, 0, none⟩ = some (.int .i64 0) := by rw [B0.cell]; rfl
    have k3 : w1.cell? ⟨q, 1, none⟩ = some (.int .i64 0) := by rw [B0.cell]; rfl
    have k4 := B0.frozen 0
    have k5 := B0.frozen 1
    have k6 : (w1.setCell ⟨q, 0, none⟩ (.int .i64 a)).cell? ⟨q, 0, none⟩ = some (.int .i64 a) := by
      have := Blk.cell (B0.stored 0 (.int .i64 a)) 0
      simpa using this
    have k7 : ((w1.setCell ⟨q, 0, none⟩ (.int .i64 a)).setCell ⟨q, 1, none⟩ (.int .i64 b)).cell? ⟨q, 1, none⟩ = some (.int .i64 b) := by
      have := Blk.cell ((B0.stored 0 (.int .i64 a)).stored 1 (.int .i64 b)) 1
      simpa using this
    clear B0 B1 hm1 hown hturn c1 e0
    go_wp2_with fail
    refine bodyPost_ret (v := .agg #[.int .i64 a, .int .i64 b]) (by simp [results, Try.results137, go_sem, k6, k7]) rfl ?_
    have hTe : Tn U w ((w1.setCell ⟨q, 0, none⟩ (.int .i64 a)).setCell ⟨q, 1, none⟩ (.int .i64 b)) :=
      (HT1.out.setCell (p := ⟨q, 0, none⟩) (.inr (by rw [HQ.out]; exact Nat.le_refl _)) _).setCell (p := ⟨q, 1, none⟩) (.inr (by rw [HQ.out]; exact Nat.le_refl _)) _
    refine ⟨rfl, ⟨m, v, _, ?_, ?_, ?_, HIS.out, HP.out.pm, HP.out.gp, HP.out.up, HP.out.um, fun b hb => ?_, fun k hk => HP.out.inn k (by omega), Nat.le_refl _, by omega⟩, hTe⟩
    · exact (HB1.out.only (only_set (only_refl _ _) _ _) (by omega)).only (only_set (only_refl _ _) _ _) (by omega)
    · have hne : ∀ g, v.ownBlock = some g → g < q := fun g hg => by
        rw [← HQ.out]; exact HLT.out g (HP.out.gp g hg).2.2
      have hk : v.ownBlock = none ∨ v.ownBlock ≠ some q := by
        cases hv : v.ownBlock with
        | none => exact .inl rfl
        | some g => exact .inr (fun e => by injection e with e; have := hne g hv; omega)
      exact (HR1.out.kept (only_set (only_refl _ _) _ _) hk).kept (only_set (only_refl _ _) _ _) hk
    · exact (HM1.out.setCell (a := ⟨q, 0, none⟩) (show m ≠ q by omega) _).setCell (a := ⟨q, 1, none⟩) (show m ≠ q by omega) _
    · exact Nat.lt_of_lt_of_le (HLT.out b hb) hTe.size
end Go.Proofs.Ytlfgnoicjogfpaa.Qu
