/-
  WALK of layer 12: Depths.
-/
import Derived.Test.YtlfgnoicjogfpaaDj
import Derived.Test.YtlfgnoicjogfpaaDk
namespace Go.Proofs.Ytlfgnoicjogfpaa.By
open Go.RowKit
open Mem Gm Rf Dp
attribute [local go_sem] Oper.semAt_some
set_option linter.unusedSimpArgs false

def adjC (g : List (List Int)) (a : Nat) : List Nat := (List.range g.length).filter (E g a)
theorem adjC_mem {g : List (List Int)} {a b : Nat} : b ∈ adjC g a ↔ E g a b = true := by
  unfold adjC
  rw [List.mem_filter, List.mem_range]
  exact ⟨fun h => h.2, fun h => ⟨(E_iff.1 h).2.1, h⟩⟩
theorem clean_rowC {g : List (List Int)} {a : Nat} (ha : a < g.length) : rowOf (clean g) a = coI (adjC g a) := gr_rowOf ha

/-- How deep the places go; none: a member is on a circle. -/
def depF (g : List (List Int)) (ins : List Bool) (own : List Int) (rest step : Int) (l : List Nat) : Nat → Int := deeps (memV ins) (adjC g) (ownV own) (bndV rest) (bndV step) l
def depL (g : List (List Int)) (ins : List Bool) (own : List Int) (rest step : Int) (l : List Nat) : List Int := (List.range g.length).map (depF g ins own rest step l)
def depV (g : List (List Int)) (ins : List Bool) (own : List Int) (rest step : Int) : Option (List Int) := (ordV g ins).map (depL g ins own rest step)

theorem dep_ok (g : List (List Int)) (ins : List Bool) (own : List Int) (rest step : Int) : ∀ (l : List Nat) (p : Nat), 0 ≤ depF g ins own rest step l p ∧ depF g ins own rest step l p ≤ cap := by
  intro l
  induction l with
  | nil =>
    intro p
    have := bnd_ok rest
    show 0 ≤ bndV rest ∧ bndV rest ≤ cap
    unfold cap; omega
  | cons q l ih =>
    intro p
    show 0 ≤ (if p = q then rnd _ _ _ _ _ _ q else _) ∧ (if p = q then rnd _ _ _ _ _ _ q else _) ≤ cap
    split
    · unfold rnd
      split
      · have h1 := mx_nonneg (bndV step) (deeps (memV ins) (adjC g) (ownV own) (bndV rest) (bndV step) l) (adjC g q)
        have h2 := own_ok own q
        have : (0 : Int) ≤ cap := by unfold cap; omega
        omega
      · have := bnd_ok rest
        unfold cap; omega
    · exact ih p
theorem mx_le_cap (g : List (List Int)) (ins : List Bool) (own : List Int) (rest step : Int) (l : List Nat) (e : List Nat) : mx (bndV step) (depF g ins own rest step l) e ≤ 1048576 + cap :=
  mx_le (by unfold cap; omega) fun x _ => by
    have := (dep_ok g ins own rest step l x).2
    have := bnd_ok step
    omega

theorem arr_IW {W : World} {db N : Nat} {f : Nat → Int} (h : Blk W db 3 (arrN N fun p => .int .i64 (f p))) (hN : N ≤ 1000) : IW W (.slice (some ⟨db, 0, none⟩) N N) ((List.range N).map f) := by
  have hl : ((List.range N).map f).length = N := by simp
  have hlen : (ints ((List.range N).map f)).length = N := by simp [ints]
  have : SlV W W.heap.size (.slice (some ⟨db, 0, none⟩) (ints ((List.range N).map f)).length N) (ints ((List.range N).map f)) :=
    .at_ _ _ _ (by rw [hlen]; exact Nat.le_refl _) (by unfold maxLen; omega) fun j u hu => ⟨h.lt, by
      rw [add_plain, Nat.zero_add, h.cell]
      have hj : j < N := by have := (List.getElem?_eq_some_iff.1 hu).1; rwa [hlen] at this
      rw [arrN_at _ hj, ← hu]
      unfold ints
      rw [List.map_map, List.getElem?_map, List.getElem?_range hj]; rfl⟩
  rwa [hlen] at this
theorem el_range {N : Nat} {f : Nat → Int} {j : Nat} (hj : j < N) : el ((List.range N).map f) j = f j := by
  unfold el
  rw [List.getD_eq_getElem?_getD, List.getElem?_map, List.getElem?_range hj]; rfl

/-- What holds between two rounds of Depths. -/
structure DI (w0 : World) (db dbx ob sb N : Nat) (ownS : Value) (step : Int) (f : List Nat → Nat → Int) (pre : List (Nat × Value)) (W : World) : Prop where
  blk : Blk W db 3 (arrN N fun p => .int .i64 (f (pre.map (·.1)).reverse p))
  dbx_ : Blk W dbx 26 #[.slice (some ⟨db, 0, none⟩) N N]
  ob_ : Blk W ob 26 #[ownS]
  sb_ : Blk W sb 3 #[.int .i64 step]
  kp : Keeps (fun k => k < w0.heap.size ∧ k ≠ db) w0 W
structure DN (w0 : World) (db dbx ob sb : Nat) : Prop where
  a : db < w0.heap.size ∧ dbx < w0.heap.size ∧ ob < w0.heap.size ∧ sb < w0.heap.size
  b : db ≠ dbx ∧ db ≠ ob ∧ db ≠ sb
theorem DI.keep {w0 : World} {db dbx ob sb N : Nat} {ownS : Value} {step : Int} {f : List Nat → Nat → Int} {pre : List (Nat × Value)} {W W' : World} {d : Nat} (hd : w0.heap.size ≤ d) (hn : DN w0 db dbx ob sb) (h : DI w0 db dbx ob sb N ownS step f pre W) (hk : Keeps (fun k => ¬ Two d k) W W') : DI w0 db dbx ob sb N ownS step f pre W' := by
  obtain ⟨⟨a1, a2, a3, a4⟩, _⟩ := hn
  have ht : ∀ k, k < w0.heap.size → ¬ Two d k := fun k hk => by unfold Two; omega
  exact ⟨(hk.block _ (ht _ a1) h.blk.lt).trans h.blk, (hk.block _ (ht _ a2) h.dbx_.lt).trans h.dbx_, (hk.block _ (ht _ a3) h.ob_.lt).trans h.ob_, (hk.block _ (ht _ a4) h.sb_.lt).trans h.sb_, h.kp.trans (hk.mono fun k hk _ => ht k hk.1)⟩
theorem DI.next {w0 : World} {db dbx ob sb N : Nat} {ownS : Value} {step : Int} {f : List Nat → Nat → Int} {pre : List (Nat × Value)} {W : World} {x : Nat × Value} {u : Int} (hn : DN w0 db dbx ob sb) (h : DI w0 db dbx ob sb N ownS step f pre W) (q : Nat)
    (hf : ∀ p, f (x.1 :: (pre.map (·.1)).reverse) p = if p = x.1 then u else f (pre.map (·.1)).reverse p) : DI w0 db dbx ob sb N ownS step f (pre ++ [x]) ((W.drewN q).setCell ⟨db, x.1, none⟩ (.int .i64 u)) ∧ Keeps (fun k => k ≠ db) W ((W.drewN q).setCell ⟨db, x.1, none⟩ (.int .i64 u)) := by
  have hk : Keeps (fun k => k ≠ db) W ((W.drewN q).setCell ⟨db, x.1, none⟩ (.int .i64 u)) := ((Keeps.refl _ W).drewN q).setCell (fun h => h rfl) _
  refine ⟨⟨?_, (hk.block _ hn.b.1.symm h.dbx_.lt).trans h.dbx_, (hk.block _ hn.b.2.1.symm h.ob_.lt).trans h.ob_, (hk.block _ hn.b.2.2.symm h.sb_.lt).trans h.sb_, h.kp.trans (hk.mono fun k hk _ => hk.2)⟩, hk⟩
  have h1 := (show Blk (W.drewN q) db 3 _ from h.blk).stored x.1 (.int .i64 u)
  rw [arrN_set] at h1
  have e : (fun j => if j = x.1 then Value.int .i64 u else .int .i64 (f (pre.map (·.1)).reverse j)) = fun p => .int .i64 (f ((pre ++ [x]).map (·.1)).reverse p) := funext fun j => by
    rw [List.map_append, List.map_cons, List.map_nil, List.reverse_append, List.reverse_cons, List.reverse_nil, List.nil_append, List.singleton_append, hf j]
    by_cases hj : j = x.1 <;> simp [hj]
  rw [e] at h1; exact h1

theorem near_cap {x : Int} (h : 0 ≤ x) : nearV x 0 1099511627776 = min x cap := by
  unfold nearV cap
  rw [if_neg (by omega)]
  split <;> omega
theorem depF_step {g : List (List Int)} {ins : List Bool} {own : List Int} {rest step : Int} {l : List Nat} {p : Nat} (hm : memV ins p = true) (x : Nat) : depF g ins own rest step (p :: l) x = if x = p then nearV (ownV own p + mx (bndV step) (depF g ins own rest step l) (adjC g p)) 0 1099511627776 else depF g ins own rest step l x := by
  rw [near_cap (by have := mx_nonneg (bndV step) (depF g ins own rest step l) (adjC g p); have := own_ok own p; omega)]
  show (if x = p then rnd (memV ins) (adjC g) (ownV own) (bndV rest) (bndV step) (depF g ins own rest step l) p else _) = _
  unfold rnd
  rw [if_pos hm, Int.add_comm]
  rfl

set_option maxRecDepth 100000 in
set_option maxHeartbeats 8000000 in
theorem depths_any (w : World) (A A2 A3 : Option Addr) (c c2 c3 N M K : Nat) (g : List (List Int)) (ins : List Bool) (own : List Int) (rest step : Int) (hN : g.length = N) (hM : ins.length = M) (hK : own.length = K) (h : GW w (.slice A N c) g) (hI : LW w (.slice A2 M c2) ins) (hO : IW w (.slice A3 K c3) own) (hs : Fits g 24 30) :
    Calls Try.prog 27 #[.slice A N c, .slice A2 M c2, .slice A3 K c3, .int .i64 rest, .int .i64 step] w (OAns ((depV g ins own rest step).getD []).length ((depV g ins own rest step).getD []) (depV g ins own rest step).isSome w) := by
  have HN := Lib.hid hN
  have HM := Lib.hid hM
  have HK := Lib.hid hK
  have HG := Lib.hid h
  have HI := Lib.hid hI
  have HO := Lib.hid hO
  have HS := Lib.hid hs
  have HBR := Lib.hid (fun W => bounded_any rest W)
  have hN24 : N ≤ 24 := hN ▸ hs.1
  have hN5 : N ≤ 1000 := by omega
  have hOV : ordV g ins = ordV g ins := rfl
  obtain ⟨r, hr⟩ : ∃ r, ordV g ins = r := ⟨_, rfl⟩
  have hdv : depV g ins own rest step = r.map (depL g ins own rest step) := by unfold depV; rw [hr]
  rw [hdv]
  have HOR := Lib.hid (fun W (hb : Below w.heap.size w W) => Order_any A A2 c c2 M W.heap.size N g ins W hN (h.on hb) hM (hI.on hb) (Nat.le_refl _) hs.small (by omega))
  rw [hr] at HOR
  have HR := Lib.hid hr
  clear hN hM hK h hI hO hs hOV hr hdv
  refine (callsIn_wide (n := 4)).1 ?_
  refine callsIn_of_wp_marks Try.func27 rfl trivial ?_ rfl
  simp only [Try.ntmps27, List.size_toArray, List.length_cons, List.length_nil, Nat.reduceAdd, Nat.reduceSub, Array.replicate_succ, Array.replicate_zero, List.push_toArray, List.append_toArray, List.nil_append, List.cons_append]
  gi_wp2_with fail
  obtain ⟨w1, hw1⟩ : ∃ w1, (w.alloc (.cells #[.slice A3 K c3] 26)).alloc (.cells #[.int .i64 step] 3) = w1 := ⟨_, rfl⟩
  have hsz1 : w1.heap.size = w.heap.size + 2 := by rw [← hw1]; simp
  have hob1 : Blk w1 w.heap.size 26 #[.slice A3 K c3] := by rw [← hw1]; exact (Blk.new w _ _).alloc _
  have hsb1 : Blk w1 (w.heap.size + 1) 3 #[.int .i64 step] := by
    rw [← hw1]; have := Blk.new (w.alloc (.cells #[.slice A3 K c3] 26)) 3 #[.int .i64 step]; rwa [World.size_alloc] at this
  have hb1 : Below w.heap.size w w1 := by rw [← hw1]; exact ((Below.refl _ w).alloc (Nat.le_refl _) _).alloc (by simp) _
  rw [hw1]
  clear hw1
  refine ⟨trivial, ?_⟩
  gi_at_call 16
  refine (callsIn_wide.2 (HOR.out w1 hb1)).mono ?_
  rintro e w2 ⟨h1, hb2⟩
  cases r with
  | none =>
    obtain rfl := h1
    have HB2 := Lib.hid (to_ hb1 (hb2.mono (by omega)))
    clear hb1 hb2 hob1 hsb1 HOR
    gi_wp2
    refine ⟨_, results_tmp2 rfl _ _ _, ?_⟩
    exact ⟨none, 0, rfl, .nil, HB2.out⟩
  | some l =>
    obtain ⟨A9, c9, rfl, h1⟩ := h1
    have HL2 := Lib.hid h1
    have HB2 := Lib.hid (show Below w.heap.size w w2 from hb1.trans (hb2.mono (by omega)))
    have HOB2 := Lib.hid (hob1.below hb2 (by omega))
    have HSB2 := Lib.hid (hsb1.below hb2 (by omega))
    have HSZ2 := Lib.hid (show w.heap.size + 2 ≤ w2.heap.size by have := hb2.size; omega)
    have HORD := Lib.hid (ordV_some HR.out)
    obtain ⟨ll, hll⟩ : ∃ ll, l.length = ll := ⟨_, rfl⟩
    have HLL := Lib.hid hll
    rw [hll]
    have hrl := HLL
    clear hrl hb1 hb2 hob1 hsb1 HOR h1 hll hsz1
    gi_wp2_with fail
    refine ⟨trivial, ?_⟩
    gi_at_call 68
    refine (callsIn_wide.2 (HBR.out w2)).mono ?_
    rintro e w3 ⟨rfl, rfl⟩
    have HRP := Lib.hid (repeat_any (w2.alloc (.cells #[.int .i64 (bndV rest)] 3)) ⟨w2.heap.size, 0, none⟩ (bndV rest) N 1 hN5 (by rw [add_plain]; exact ((Blk.new w2 3 #[.int .i64 (bndV rest)]).cell 0).trans rfl))
    gi_wp2_with fail
    refine ⟨trivial, ?_⟩
    gi_at_call 67
    refine (callsIn_wide.2 HRP.out).mono ?_
    rintro e w3 ⟨db, rfl, hdb, hblk3, hb3⟩
    rw [World.size_alloc] at hdb
    have hb3' : Below w2.heap.size w2 w3 := (alloc_ w2 _).trans (hb3.mono (by simp))
    have hdb3 := hblk3.lt
    gi_wp2_with fail
    obtain ⟨w4, hw4⟩ : ∃ w4, w3.alloc (.cells #[.slice (some ⟨db, 0, none⟩) N N] 26) = w4 := ⟨_, rfl⟩
    have hsz4 : w4.heap.size = w3.heap.size + 1 := by rw [← hw4]; simp
    have hdx4 : Blk w4 w3.heap.size 26 #[.slice (some ⟨db, 0, none⟩) N N] := by rw [← hw4]; exact Blk.new w3 _ _
    have hblk4 : Blk w4 db 3 (arrN N fun _ => .int .i64 (bndV rest)) := by rw [← hw4]; exact hblk3.alloc _
    have hb4 : Below w2.heap.size w2 w4 := by rw [← hw4]; exact hb3'.alloc hb3'.size _
    rw [hw4]
    clear hw4 hblk3 hb3 hb3'
    have HCL := Lib.hid (by
      have := clean_own A c w4.heap.size g w4 (by rw [HN.out]; exact HG.out.on (to_ HB2.out (hb4.mono (by have := HB2.out.size; omega)))) (Nat.le_refl _) HS.out.small
      rw [HN.out] at this; exact this)
    refine ⟨trivial, ?_⟩
    gi_at_call 70
    refine (callsIn_wide.2 HCL.out).mono ?_
    rintro e w5 ⟨rfl, ⟨base, hbase, hown5⟩, hb5⟩
    gi_wp2_with fail
    have hsz5 := hb5.size
    refine ⟨trivial, ?_⟩
    gi_at_call 69
    refine (callsIn_wide.2 (fromEnd_any A9 (some ⟨w3.heap.size + 1, 0, none⟩) ll c9 N N w5)).mono ?_
    rintro e w6' ⟨rfl, rfl⟩
    obtain ⟨w6, hw6⟩ : ∃ w6, (w5.alloc (.cells #[.slice A9 ll c9] 26)).alloc (.cells #[.slice (some ⟨w3.heap.size + 1, 0, none⟩) N N] 22) = w6 := ⟨_, rfl⟩
    have hsz6 : w6.heap.size = w5.heap.size + 2 := by rw [← hw6]; simp
    have hk6 : Below w5.heap.size w5 w6 := by rw [← hw6]; exact ((Below.refl _ w5).alloc (Nat.le_refl _) _).alloc (by simp) _
    have hx1 : w6.cell? ⟨w5.heap.size, 0, none⟩ = some (.slice A9 ll c9) := by
      rw [← hw6]; have := ((Blk.new w5 26 #[.slice A9 ll c9]).alloc (.cells #[.slice (some ⟨w3.heap.size + 1, 0, none⟩) N N] 22)).cell 0; exact this.trans rfl
    have hx2 : w6.cell? ⟨w5.heap.size + 1, 0, none⟩ = some (.slice (some ⟨w3.heap.size + 1, 0, none⟩) N N) := by
      rw [← hw6]; have := (Blk.new (w5.alloc (.cells #[.slice A9 ll c9] 26)) 22 #[.slice (some ⟨w3.heap.size + 1, 0, none⟩) N N]).cell 0; rw [World.size_alloc] at this; exact this.trans rfl
    rw [hw6]
    clear hw6
    obtain ⟨rs, hrl, hrb, hro, -⟩ := hown5
    rw [clean_length, HN.out] at hrl
    have hrs : ∀ p, p < N → rs[p]? = some (rs.getD p (.slice none 0 0)) := fun p hp => by
      rw [List.getD_eq_getElem?_getD, List.getElem?_eq_getElem (by omega)]; rfl
    have hrb6 : Blk w6 (w3.heap.size + 1) 26 rs.toArray := by
      have : Blk w5 (w3.heap.size + 1) 26 rs.toArray := by rw [← hsz4]; exact hrb
      exact this.below hk6 (by have := hrb.lt; omega)
    have hDN : DN w6 db w3.heap.size w.heap.size (w.heap.size + 1) := ⟨by have := HSZ2.out; have := hb4.size; omega, by have := HSZ2.out; omega⟩
    have hb26 : Below w2.heap.size w2 w6 := hb4.trans ((hb5.trans (hk6.mono hb5.size)).mono hb4.size)
    have hb46 : Below w4.heap.size w4 w6 := hb5.trans (hk6.mono hb5.size)
    have hbw6 : Below w.heap.size w w6 := HB2.out.trans (hb26.mono HB2.out.size)
    have hnd := HORD.out.nodup
    have hlN : ∀ p ∈ l, p < N ∧ memV ins p = true := fun p hp => by have := (HORD.out.mem p).1 hp; rw [HN.out] at this; exact this
    have hllN : ll ≤ N := by rw [← HLL.out]; exact nodup_len _ _ hnd fun p hp => (hlN p hp).1
    have hrow : ∀ p, p < N → ∃ A' c', rs.getD p (.slice none 0 0) = .slice A' (adjC g p).length c' ∧ w5.ownsRow base 3 1 (rs.getD p (.slice none 0 0)) (adjC g p).length (nats (adjC g p)) := fun p hp => by
      have h9 := hro p _ (hrs p hp)
      rw [clean_rowC (by rw [HN.out]; exact hp)] at h9
      have e1 : (coI (adjC g p)).length = (adjC g p).length := by simp [coI]
      rw [e1, show ints (coI (adjC g p)) = nats (adjC g p) from (nats_ints _).symm] at h9
      obtain ⟨A', c', e2⟩ := (SlV.of_own h9).form
      rw [show (nats (adjC g p)).length = (adjC g p).length by simp [nats]] at e2
      exact ⟨A', c', e2, h9⟩
    have HT := Lib.hid (fromEnd_tells 3 (by decide) w5.heap.size (w5.heap.size + 1) w2.heap.size ll N c9 N A9 (some ⟨w3.heap.size + 1, 0, none⟩) l (fun p => rs.getD p (.slice none 0 0)) (fun k => k < w6.heap.size ∧ k ≠ db) (by omega) (by omega) (fun k hk => by have := hb26.size; omega) HLL.out (by omega) w6 hx1 hx2 (by have := HL2.out; rw [HLL.out] at this; exact this.below hb26) hb26.size
      (fun p hp => by
        obtain ⟨A', c', e1, _⟩ := hrow p hp
        refine ⟨_, A', _, c', rfl, ?_, ?_, e1⟩
        · rw [add_block]
          show w3.heap.size + 1 < w6.heap.size ∧ w3.heap.size + 1 ≠ db
          have := hrb6.lt; omega
        · rw [add_plain, Nat.zero_add, hrb6.cell, List.getElem?_toArray]; exact hrs p hp) (fun p hp => (hlN p hp).1))
    have hD0 : DI w6 db w3.heap.size w.heap.size (w.heap.size + 1) N (.slice A3 K c3) step (depF g ins own rest step) [] w6 :=
      ⟨hblk4.below hb46 (by omega), hdx4.below hb46 (by omega), HOB2.out.below hb26 (by have := HSZ2.out; omega), HSB2.out.below hb26 (by have := HSZ2.out; omega), Keeps.refl _ _⟩
    have HDN := Lib.hid hDN
    have HD0 := Lib.hid hD0
    have HBW6 := Lib.hid hbw6
    have HLN := Lib.hid hlN
    have HROW := Lib.hid hrow
    have HBS := Lib.hid (show w4.heap.size < base ∧ db < w4.heap.size ∧ w5.heap.size ≤ w6.heap.size ∧ Below w5.heap.size w5 w6 from ⟨hbase, by omega, by omega, hk6⟩)
    clear hx1 hx2 hk6 hb26 hb46 hbw6 hrb hrb6 hro hDN hD0 hdx4 hblk4 hb4 hb5 hnd hlN hrow hrs hrl hbase hsz6 hsz5
    gi_wp2_with fail
    refine wpIn_range rfl (by decide) (gf := 120) (lb := #[.pointer (some ⟨w5.heap.size, 0, none⟩), .pointer (some ⟨w5.heap.size + 1, 0, none⟩)]) rfl trivial (enters_of Try.func120 (by kernel_rfl) rfl) HT.out (Below.refl _ _) (fun _ => rfl)
      (fun k => ¬ Two w6.heap.size k) (fun k h h' => h' h) (fun k _ => trivial) (fun k _ => trivial) (fun h => by have := h.1; omega)
      (fun pre W => DI w6 db w3.heap.size w.heap.size (w.heap.size + 1) N (.slice A3 K c3) step (depF g ins own rest step) pre W) (fun _ _ _ => False)
      (fun pre X Y h hk => h.keep (Nat.le_refl _) HDN.out hk) (fun _ _ _ _ h _ _ => h) HD0.out
      (fun x => { tmps := #[.slice A N c, .slice A2 M c2, .slice A3 K c3, .int .i64 rest, .int .i64 step, undef, undef, .pointer (some ⟨w.heap.size, 0, none⟩), undef, .pointer (some ⟨w.heap.size + 1, 0, none⟩), .slice none 0 0, .bool false, .slice A9 ll c9, .bool true, .pointer (some ⟨w3.heap.size, 0, none⟩), .int .i64 (x.1 : Int), x.2, .tuple #[.slice A9 ll c9, .bool true], .slice A N c, .slice A2 M c2, .tuple #[.slice A9 ll c9, .bool true], .slice A9 ll c9, .bool true, .bool true, .bool false, .int .i64 rest, .int .i64 (bndV rest), .slice (some ⟨w2.heap.size, 0, none⟩) 1 1, .slice A N c, .int .i64 (N : Int), .slice (some ⟨db, 0, none⟩) N N, .slice A9 ll c9, .slice A N c, .slice (some ⟨w3.heap.size + 1, 0, none⟩) N N, .func (.func 120) #[] #[.pointer (some ⟨w5.heap.size, 0, none⟩), .pointer (some ⟨w5.heap.size + 1, 0, none⟩)], .int .i64 (x.1 : Int), x.2, undef, undef, undef, undef, undef, undef, undef, undef, undef, undef, undef, undef, undef], defers := [] }) ?assign ?body ?done ?stop
    case assign =>
      intro l9 x W K9 hK
      gi_wp2
      exact hK
    case body =>
      rintro l9 pre ⟨p, rp⟩ W hDI hpre hsz
      have hmem : (p, rp) ∈ toldE (fun p => rs.getD p (.slice none 0 0)) l := hpre.subset (List.mem_append.2 (.inr (List.mem_singleton.2 rfl)))
      obtain ⟨p', hp', e⟩ := List.mem_map.1 hmem
      injection e with e1 e2
      subst e1
      obtain ⟨hpN, hpm⟩ := HLN.out p' (List.mem_reverse.1 hp')
      obtain ⟨A', c', e3, hrow⟩ := HROW.out p' hpN
      dsimp only at e2
      rw [e3] at e2 hrow
      subst e2
      have hbW : Below w.heap.size w W.drew := (HBW6.out.trans (hDI.kp.below HBW6.out.size fun k hk => ⟨by have := HBW6.out.size; omega, by have := HSZ2.out; omega⟩)).trans ⟨rfl, rfl, rfl, Nat.le_refl _, fun _ _ => rfl⟩
      have hrW : W.drew.ownsRow base 3 1 (.slice A' (adjC g p').length c') (adjC g p').length (nats (adjC g p')) := own_keep hrow fun q hq hlt _ => (hDI.kp.block q ⟨by have := HBS.out; omega, by have := HBS.out; omega⟩ (by have := HBS.out; omega)).trans (HBS.out.2.2.2.block q hlt)
      have hie : IW W.drew (.slice A' (adjC g p').length c') (coI (adjC g p')) := by
        have := SlV.of_own hrW
        rw [nats_ints] at this; exact this
      obtain ⟨lp, hlp⟩ : ∃ lp, (pre.map (·.1)).reverse = lp := ⟨_, rfl⟩
      have hid : IW W.drew (.slice (some ⟨db, 0, none⟩) N N) ((List.range N).map (depF g ins own rest step lp)) := arr_IW (by have := hDI.blk; rw [hlp] at this; exact this) hN5
      have hends : ∀ e ∈ adjC g p', e < N := fun e he => by have := (E_iff.1 (adjC_mem.1 he)).2.1; rw [HN.out] at this; exact this
      have HOWN := Lib.hid (ownOf_any W.drew A3 c3 K p' own HK.out (HO.out.on hbW))
      have HBEL := Lib.hid (below_any W.drew A' (some ⟨db, 0, none⟩) c' N (adjC g p').length N (adjC g p') _ step rfl (by simp) hie hid hends (Nat.le_trans (List.length_filter_le _ _) (by rw [List.length_range, HN.out]; omega)) (fun j hj => by rw [el_range hj]; exact dep_ok _ _ _ _ _ _ _))
      have hmx : mx (bndV step) (fun q => el ((List.range N).map (depF g ins own rest step lp)) q) (adjC g p') = mx (bndV step) (depF g ins own rest step lp) (adjC g p') := mx_congr fun e he => el_range (hends e he)
      rw [hmx] at HBEL
      have hstep := depF_step (g := g) (own := own) (rest := rest) (step := step) (l := lp) hpm
      have hmb1 := mx_nonneg (bndV step) (depF g ins own rest step lp) (adjC g p')
      have hmb2 := mx_le_cap g ins own rest step lp (adjC g p')
      have hob := own_ok own p'
      generalize mx (bndV step) (depF g ins own rest step lp) (adjC g p') = mv at HBEL hstep hmb1 hmb2
      generalize ownV own p' = ov at HOWN hstep hob
      unfold cap at hmb2
      have hw : IntKind.i64.wrap (ov + mv) = ov + mv := IntWalk.i64_in _ ⟨by omega, by omega⟩
      have HNEAR := Lib.hid (fun q => near_any (ov + mv) 0 1099511627776 (W.drewN (1 + q)))
      obtain ⟨u, hu⟩ : ∃ u, nearV (ov + mv) 0 1099511627776 = u := ⟨_, rfl⟩
      rw [hu] at HNEAR hstep
      have HFIN := Lib.hid (fun q => hDI.next (x := (p', .slice A' (adjC g p').length c')) (u := u) HDN.out (1 + q) (fun x => by rw [hlp]; exact hstep x))
      have hcd : ∀ q, (W.drewN (1 + q)).cell? ⟨db, p', none⟩ = some (.int .i64 (depF g ins own rest step lp p')) := fun q => (hDI.blk.cell p').trans (by rw [arrN_at _ hpN, hlp])
      have hfd : ∀ q, (W.drewN (1 + q)).frozen? ⟨db, p', none⟩ = false := fun q => hDI.blk.frozen p'
      generalize depF g ins own rest step lp p' = dv0 at hcd
      have hpI : (p' : Int) < (N : Int) := by omega
      have hp0 : (0 : Int) ≤ (p' : Int) := by omega
      have hHeld : W.drew.cell? ⟨w3.heap.size, 0, none⟩ = some (.slice (some ⟨db, 0, none⟩) N N) ∧ W.drew.cell? ⟨w.heap.size, 0, none⟩ = some (.slice A3 K c3) ∧ W.drew.cell? ⟨w.heap.size + 1, 0, none⟩ = some (.int .i64 step) := ⟨(hDI.dbx_.cell 0).trans rfl, (hDI.ob_.cell 0).trans rfl, (hDI.sb_.cell 0).trans rfl⟩
      have HKEEP := Lib.hid (fun q => show (W.drewN (1 + q)).cell? ⟨w3.heap.size, 0, none⟩ = some (.slice (some ⟨db, 0, none⟩) N N) ∧ (W.drewN (1 + q)).cell? ⟨w.heap.size, 0, none⟩ = some (.slice A3 K c3) ∧ (W.drewN (1 + q)).cell? ⟨w.heap.size + 1, 0, none⟩ = some (.int .i64 step) from hHeld)
      have HAFT := Lib.hid (fun q => show ((W.drewN (1 + q)).setCell ⟨db, p', none⟩ (.int .i64 u)).cell? ⟨w3.heap.size, 0, none⟩ = some (.slice (some ⟨db, 0, none⟩) N N) ∧ ((W.drewN (1 + q)).setCell ⟨db, p', none⟩ (.int .i64 u)).cell? ⟨w.heap.size, 0, none⟩ = some (.slice A3 K c3) ∧ ((W.drewN (1 + q)).setCell ⟨db, p', none⟩ (.int .i64 u)).cell? ⟨w.heap.size + 1, 0, none⟩ = some (.int .i64 step) from
        have h9 := (HFIN.out q).1
        ⟨(h9.dbx_.cell 0).trans rfl, (h9.ob_.cell 0).trans rfl, (h9.sb_.cell 0).trans rfl⟩)
      obtain ⟨m, hm⟩ : ∃ m, (adjC g p').length = m := ⟨_, rfl⟩
      rw [hm] at HBEL HFIN ⊢
      clear hmem hp' hpm e3 hrow hbW hrW hie hid hends hmx hstep hmb1 hmb2 hob hu hpre hm hlp hDI
      gi_wp2_with fail
      refine wpIn_region_round (S := fun W' => W'.cell? ⟨w3.heap.size, 0, none⟩ = some (.slice (some ⟨db, 0, none⟩) N N) ∧ W'.cell? ⟨w.heap.size, 0, none⟩ = some (.slice A3 K c3) ∧ W'.cell? ⟨w.heap.size + 1, 0, none⟩ = some (.int .i64 step)) (by kernel_rfl) (by kernel_rfl) ?_
      refine wpAnyH_take (i := 0) rfl (by kernel_rfl) (by kernel_rfl) (by kernel_rfl) (fun _ _ _ h => h) (Or.inl ⟨by rfl, by intro W hSW; (try dsimp only at hSW); go_simp; try (with_reducible rfl)⟩) hHeld ?_
      try simp only [Act.put, List.getElem_toArray, List.getElem_cons_zero, List.getElem_cons_succ, List.setIfInBounds_toArray, List.set_cons_zero, List.set_cons_succ]
      refine wpAnyH_take (i := 1) rfl (by kernel_rfl) (by kernel_rfl) (by kernel_rfl) (fun _ _ _ h => h) (Or.inl ⟨by rfl, by intro W hSW; (try dsimp only at hSW); go_simp; try (with_reducible rfl)⟩) hHeld ?_
      try simp only [Act.put, List.getElem_toArray, List.getElem_cons_zero, List.getElem_cons_succ, List.setIfInBounds_toArray, List.set_cons_zero, List.set_cons_succ]
      refine wpAnyH_take (i := 2) rfl (by kernel_rfl) (by kernel_rfl) (by kernel_rfl) (fun _ _ _ h => h) (Or.inl ⟨by rfl, by intro W hSW; (try dsimp only at hSW); go_simp; try (with_reducible rfl)⟩) hHeld ?_
      try simp only [Act.put, List.getElem_toArray, List.getElem_cons_zero, List.getElem_cons_succ, List.setIfInBounds_toArray, List.set_cons_zero, List.set_cons_succ]
      refine wpAnyH_take (i := 3) rfl (by kernel_rfl) (by kernel_rfl) (by kernel_rfl) (fun _ _ _ h => h) (Or.inl ⟨by rfl, by intro W hSW; (try dsimp only at hSW); go_simp; try (with_reducible rfl)⟩) hHeld ?_
      try simp only [Act.put, List.getElem_toArray, List.getElem_cons_zero, List.getElem_cons_succ, List.setIfInBounds_toArray, List.set_cons_zero, List.set_cons_succ]
      refine wpAnyH_take (i := 5) rfl (by kernel_rfl) (by kernel_rfl) (by kernel_rfl) (fun _ _ _ h => h) (Or.inl ⟨by rfl, by intro W hSW; (try dsimp only at hSW); go_simp; try (with_reducible rfl)⟩) hHeld ?_
      try simp only [Act.put, List.getElem_toArray, List.getElem_cons_zero, List.getElem_cons_succ, List.setIfInBounds_toArray, List.set_cons_zero, List.set_cons_succ]
      refine wpAnyH_take (i := 6) rfl (by kernel_rfl) (by kernel_rfl) (by kernel_rfl) (fun _ _ _ h => h) (Or.inl ⟨by rfl, by intro W hSW; (try dsimp only at hSW); go_simp; try (with_reducible rfl)⟩) hHeld ?_
      try simp only [Act.put, List.getElem_toArray, List.getElem_cons_zero, List.getElem_cons_succ, List.setIfInBounds_toArray, List.set_cons_zero, List.set_cons_succ]
      refine wpAnyH_take (i := 7) rfl (by kernel_rfl) (by kernel_rfl) (by kernel_rfl) (fun _ _ _ h => h) (Or.inl ⟨by rfl, by intro W hSW; (try dsimp only at hSW); go_simp; try (with_reducible rfl)⟩) hHeld ?_
      try simp only [Act.put, List.getElem_toArray, List.getElem_cons_zero, List.getElem_cons_succ, List.setIfInBounds_toArray, List.set_cons_zero, List.set_cons_succ]
      refine wpAnyH_ready (rs := [4]) (by kernel_rfl) (by simp) ?_
      refine AllReadyH.cons rfl (fun K9 hK9 => ?_) AllReadyH.nil
      go_simp
      refine HOWN.out.mono ?_
      rintro e w9 ⟨rfl, rfl⟩
      try go_wp2_with fail
      refine hK9.out _ _ hHeld ?_
      clear hK9 K9 hHeld
      intro hHeld
      try simp only [Act.put, List.getElem_toArray, List.getElem_cons_zero, List.getElem_cons_succ, List.setIfInBounds_toArray, List.set_cons_zero, List.set_cons_succ]
      refine wpAnyH_ready (rs := [8]) (by kernel_rfl) (by simp) ?_
      refine AllReadyH.cons rfl (fun K9 hK9 => ?_) AllReadyH.nil
      go_simp
      refine HBEL.out.mono ?_
      rintro e w9 ⟨rfl, q, rfl⟩
      try go_wp2_with fail
      refine hK9.out _ _ (HKEEP.out q) ?_
      clear hK9 K9 hHeld
      intro hHeld
      try simp only [Act.put, List.getElem_toArray, List.getElem_cons_zero, List.getElem_cons_succ, List.setIfInBounds_toArray, List.set_cons_zero, List.set_cons_succ]
      refine wpAnyH_take (i := 9) rfl (by kernel_rfl) (by kernel_rfl) (by kernel_rfl) (fun _ _ _ h => h) (Or.inl ⟨by rfl, by intro W hSW; (try dsimp only at hSW); go_simp; try (with_reducible rfl)⟩) hHeld ?_
      try simp only [Act.put, List.getElem_toArray, List.getElem_cons_zero, List.getElem_cons_succ, List.setIfInBounds_toArray, List.set_cons_zero, List.set_cons_succ]
      refine wpAnyH_ready (rs := [10]) (by kernel_rfl) (by simp) ?_
      refine AllReadyH.cons rfl (fun K9 hK9 => ?_) AllReadyH.nil
      go_simp
      refine (HNEAR.out q).mono ?_
      rintro e w9 ⟨rfl, rfl⟩
      try go_wp2_with fail
      refine hK9.out _ _ hHeld ?_
      clear hK9 K9 hHeld
      intro hHeld
      try simp only [Act.put, List.getElem_toArray, List.getElem_cons_zero, List.getElem_cons_succ, List.setIfInBounds_toArray, List.set_cons_zero, List.set_cons_succ]
      refine wpAnyH_take (i := 11) rfl (by kernel_rfl) (by kernel_rfl) (by kernel_rfl) (fun _ _ _ h => h) (Or.inl ⟨by rfl, by intro W hSW; (try dsimp only at hSW); go_simp; try (with_reducible rfl)⟩) hHeld ?_
      try simp only [Act.put, List.getElem_toArray, List.getElem_cons_zero, List.getElem_cons_succ, List.setIfInBounds_toArray, List.set_cons_zero, List.set_cons_succ]
      refine wpAnyH_ready (rs := [12]) (by kernel_rfl) (by simp) ?_
      refine AllReadyH.cons rfl (fun K9 hK9 => ?_) AllReadyH.nil
      go_simp
      refine hK9.out _ _ (HAFT.out q) ?_
      clear hK9 K9 hHeld
      intro hHeld
      try simp only [Act.put, List.getElem_toArray, List.getElem_cons_zero, List.getElem_cons_succ, List.setIfInBounds_toArray, List.set_cons_zero, List.set_cons_succ]
      refine wpAnyH_done (by kernel_rfl) ?_ _
      dsimp only [Only]
      exact ⟨(HFIN.out q).2.mono fun k hk _ => by
        have := HDN.out.a.1
        unfold Two at hk
        omega, (HFIN.out q).1⟩
    case done =>
      rintro W hDI hD
      have e : ((toldE (fun p => rs.getD p (.slice none 0 0)) l).map (·.1)).reverse = l := by
        unfold toldE
        rw [List.map_map, List.map_reverse, List.reverse_reverse]
        exact List.map_id' l
      have hblk := hDI.blk
      rw [e] at hblk
      have hcb : W.cell? ⟨w3.heap.size, 0, none⟩ = some (.slice (some ⟨db, 0, none⟩) N N) := (hDI.dbx_.cell 0).trans rfl
      have HBE := Lib.hid (show Below w.heap.size w W from HBW6.out.trans (hDI.kp.below HBW6.out.size fun k hk => ⟨by have := HBW6.out.size; omega, by have := HSZ2.out; omega⟩))
      have HBLK := Lib.hid hblk
      have HD := Lib.hid hD
      have HDB := Lib.hid (show db ≠ w6.heap.size ∧ w.heap.size ≤ w6.heap.size from ⟨by have := HDN.out.a.1; omega, HBW6.out.size⟩)
      clear hDI hblk e hD
      gi_wp2
      refine ⟨by simp, .inl ⟨_, _, rfl, run_takeDeferred HD.out, ?_⟩⟩
      refine ⟨_, results_tmp2 rfl _ _ _, ?_⟩
      have hlen : (depL g ins own rest step l).length = N := by unfold depL; rw [List.length_map, List.length_range]; exact HN.out
      refine ⟨some ⟨db, 0, none⟩, N, ?_, ?_, ?_⟩
      · show _ = Ending.returned (.tuple #[.slice (some ⟨db, 0, none⟩) (depL g ins own rest step l).length N, .bool true])
        rw [hlen]; rfl
      · show IW _ (.slice (some ⟨db, 0, none⟩) (depL g ins own rest step l).length N) (depL g ins own rest step l)
        rw [hlen]
        unfold depL
        rw [HN.out]
        exact arr_IW ((World.putObj_heap_other HDB.out.1).trans HBLK.out) hN5
      · exact HBE.out.trans ⟨rfl, rfl, rfl, by simp, fun k hk => World.putObj_heap_other (by have := HDB.out.2; omega)⟩
    case stop =>
      rintro ch pre W _ h _
      exact h.elim
end Go.Proofs.Ytlfgnoicjogfpaa.By
