/-
 Qm2 Qn2 Qo2 Qp2
-/
import Derived.Test.YtdaimeaofgbfpaaGreatZa2
import Derived.Test.YtdaimeaofgbfpaaGreatTa2
import Derived.Maps.AppendAt
set_option linter.unusedSimpArgs false
set_option linter.unusedVariables false
namespace Go.Proofs.YtdaimeaofgbfpaaGreat.Bo
open Go.RowKit Go.Maps
open Mem Rf
theorem il_new (W : World) (l : List Int) (hm : l.length ≤ maxLen := by decide) : IL (W.alloc (.cells (l.map (Value.int .i64)).toArray 3)) (some ⟨W.heap.size, 0, none⟩) l.length l.length l := by
 ·refine ⟨rfl, Nat.le_refl _, hm, (fun e => by cases e), fun i x hi => ⟨_, rfl, by simp, fun j u hu => ?_⟩⟩
  obtain rfl : j = 0 := by have := (List.getElem?_eq_some_iff.1 hu).1; simpa [encI] using this
  obtain rfl : u = .int .i64 x := by simpa [encI] using hu.symm
  have := cells_new W 3 (l.map (Value.int .i64)) i (.int .i64 x) (by rw [List.getElem?_map, hi]; rfl)
  rw [Nat.mul_one, show ((⟨W.heap.size, 0, none⟩ : Addr).add i).add 0 = (⟨W.heap.size, 0, none⟩ : Addr).add i from by unfold Addr.add; simp]
  exact this
set_option maxRecDepth 100000 in
set_option maxHeartbeats 8000000 in
theorem direct_doc (w : World) (P : Pgm) (h : PgR w P) (i : Nat) (hi : i < P.fn) :
  Calls Tryz.prog 84 #[pgV P, .int .i64 (i : Int)] w (IOwn w (rise P.fn (gatV (gfAt P.fs i) (P.cs i) [1, 5]))) := by
 have hfw := h.few
 have HRF := Hd (fun W (hb : Below w.heap.size w W) An m cm ns hns hm => refs_any W (gfAt P.fs i) (P.cs i) (h.on hb |>.fns i hi) An m cm ns hns hm)
 have HGF := Hd (fun W (hb : Below w.heap.size w W) => gf_at (h.on hb).fr hi)
 have HGL := Hd (show ∀ ns, (gatV (gfAt P.fs i) (P.cs i) ns).length ≤ 1000000 from fun ns => by
  have h9 := (h.fns i hi).few
  have h8 := gatL_len (P.cs i) (gfAt P.fs i).refs (okN ns) (min (gfAt P.fs i).F.code.2.1 (gfAt P.fs i).R.2.1)
  unfold gatV
  omega)
 have hiI : (i : Int) < (P.fn : Int) := by omega
 have hi0 : (0 : Int) ≤ (i : Int) := by omega
 clear h
 obtain ⟨fA, fn, fc, fs, dA, dn, dc, ds, en, cs⟩ := P
 unfold pgV
 dsimp only at HRF HGF HGL hfw hi hiI ⊢
 obtain ⟨g, hg⟩ : ∃ g, gfAt fs i = g := ⟨_, rfl⟩
 rw [hg] at HRF HGF HGL ⊢
 have HG := Hd hg
 clear hg
 obtain ⟨ad, rfl, _, f0, hfc⟩ := HGF.out w (Below.refl _ _)
 have hz := World.block_lt_of_cell? w _ f0
 obtain ⟨c, hcs⟩ : ∃ c, cs i = c := ⟨_, rfl⟩
 rw [hcs] at HRF HGL ⊢
 have HCS := Hd hcs
 clear hcs
 replace HGL := Hd (HGL.out [1, 5])
 obtain ⟨L9, hL9⟩ : ∃ x, gatV g c [1, 5] = x := ⟨_, rfl⟩
 rw [hL9] at HGL ⊢
 replace HRF := Hd (fun W hw An cm hns => (HRF.out W hw An 2 cm [1, 5] hns (by decide)).mono fun e w' hh => by rw [hL9] at hh; exact (hh : IOwn W L9 e w'))
 clear hL9
 obtain ⟨file, item, nm, ⟨cl, ⟨kA, kn, kc⟩, pd, no, fr, tt, ⟨lA, ln, lc⟩, ⟨cA, cn, cc⟩, ⟨rA, rn, rc⟩⟩, ⟨qA, qn, qc⟩, refs⟩ := g
 have f1 := hfc 0 _ rfl
 have f2 := hfc 1 _ rfl
 have f3 := hfc 2 _ rfl
 have f4 := hfc 3 _ rfl
 have f5 := hfc 4 _ rfl
 have f6 := hfc 5 _ rfl
 have f7 := hfc 6 _ rfl
 have f8 := hfc 7 _ rfl
 have f9 := hfc 8 _ rfl
 have f10 := hfc 9 _ rfl
 have f11 := hfc 10 _ rfl
 have f12 := hfc 11 _ rfl
 unfold encGf slV at HRF
 unfold slV at f4 f9 f10 f11 f12
 dsimp only at HRF f0 f1 f2 f3 f4 f5 f6 f7 f8 f9 f10 f11 f12
 clear hfc
 obtain ⟨W0, hW0⟩ : ∃ W0, w.alloc (.cells #[.slice (some ad) fn fc, .slice dA dn dc, .int .i64 en] 29) = W0 := ⟨_, rfl⟩
 have HB0 := Hd (show Below w.heap.size w W0 from by rw [← hW0]; exact alloc_ _ _)
 have hbk : Blk W0 w.heap.size 29 #[.slice (some ad) fn fc, .slice dA dn dc, .int .i64 en] := by rw [← hW0]; exact Blk.new _ _ _
 have c0 : W0.cell? ⟨w.heap.size, 0, none⟩ = some (.slice (some ad) fn fc) := hbk.cell 0
 have c1 : W0.cell? ⟨w.heap.size, 1, none⟩ = some (.slice dA dn dc) := hbk.cell 1
 have c2 : W0.cell? ⟨w.heap.size, 2, none⟩ = some (.int .i64 en) := hbk.cell 2
 replace f0 := cell_on f0 HB0.out
 replace f1 := cell_on f1 HB0.out
 replace f2 := cell_on f2 HB0.out
 replace f3 := cell_on f3 HB0.out
 replace f4 := cell_on f4 HB0.out
 replace f5 := cell_on f5 HB0.out
 replace f6 := cell_on f6 HB0.out
 replace f7 := cell_on f7 HB0.out
 replace f8 := cell_on f8 HB0.out
 replace f9 := cell_on f9 HB0.out
 replace f10 := cell_on f10 HB0.out
 replace f11 := cell_on f11 HB0.out
 replace f12 := cell_on f12 HB0.out
 clear hbk
 unfold IOwn
 go_enter Tryz.func84, Tryz.ntmps84
 go_wp2_with fail
 clear hW0
 have HD := Hd (show Below w.heap.size w W0.drew from HB0.out.drew)
 refine wp_region_noPanic ?_
 refine wp_region_held_drew (S := fun W => W.cell? ⟨w.heap.size, 0, none⟩ = some (.slice (some ad) fn fc) ∧ W.cell? ⟨w.heap.size, 1, none⟩ = some (.slice dA dn dc) ∧ W.cell? ⟨w.heap.size, 2, none⟩ = some (.int .i64 en) ∧ W.cell? (ad.add (i * 13)) = some (.int .i64 (file : Int)) ∧ W.cell? ⟨(ad.add (i * 13)).block, (ad.add (i * 13)).off + 1, none⟩ = some (.int .i64 (item : Int)) ∧ W.cell? ⟨(ad.add (i * 13)).block, (ad.add (i * 13)).off + 2, none⟩ = some (.string nm) ∧ W.cell? ⟨(ad.add (i * 13)).block, (ad.add (i * 13)).off + 3, none⟩ = some (.int .i64 cl) ∧ W.cell? ⟨(ad.add (i * 13)).block, (ad.add (i * 13)).off + 4, none⟩ = some (.slice kA kn kc) ∧ W.cell? ⟨(ad.add (i * 13)).block, (ad.add (i * 13)).off + 5, none⟩ = some (.int .i64 pd) ∧ W.cell? ⟨(ad.add (i * 13)).block, (ad.add (i * 13)).off + 6, none⟩ = some (.bool no) ∧ W.cell? ⟨(ad.add (i * 13)).block, (ad.add (i * 13)).off + 7, none⟩ = some (.int .i64 fr) ∧ W.cell? ⟨(ad.add (i * 13)).block, (ad.add (i * 13)).off + 8, none⟩ = some (.int .i64 tt) ∧ W.cell? ⟨(ad.add (i * 13)).block, (ad.add (i * 13)).off + 9, none⟩ = some (.slice lA ln lc) ∧ W.cell? ⟨(ad.add (i * 13)).block, (ad.add (i * 13)).off + 10, none⟩ = some (.slice cA cn cc) ∧ W.cell? ⟨(ad.add (i * 13)).block, (ad.add (i * 13)).off + 11, none⟩ = some (.slice rA rn rc) ∧ W.cell? ⟨(ad.add (i * 13)).block, (ad.add (i * 13)).off + 12, none⟩ = some (.slice qA qn qc)) (by kernel_rfl) (⟨c0, c1, c2, f0, f1, f2, f3, f4, f5, f6, f7, f8, f9, f10, f11, f12⟩) (fun hHeld => ?_)
 refine tk8Z 0 1 2 3 4 7 8 9 hHeld ?_
 refine rd1Z 5 (fun K hK => ?_)
 go_simp
 have HA := Hd (alloc_ W0.drew (.cells #[.int .i64 1, .int .i64 5] 3))
 refine hK.out _ _ (⟨cell_on hHeld.1 HA.out, cell_on hHeld.2.1 HA.out, cell_on hHeld.2.2.1 HA.out, cell_on hHeld.2.2.2.1 HA.out, cell_on hHeld.2.2.2.2.1 HA.out, cell_on hHeld.2.2.2.2.2.1 HA.out, cell_on hHeld.2.2.2.2.2.2.1 HA.out, cell_on hHeld.2.2.2.2.2.2.2.1 HA.out, cell_on hHeld.2.2.2.2.2.2.2.2.1 HA.out, cell_on hHeld.2.2.2.2.2.2.2.2.2.1 HA.out, cell_on hHeld.2.2.2.2.2.2.2.2.2.2.1 HA.out, cell_on hHeld.2.2.2.2.2.2.2.2.2.2.2.1 HA.out, cell_on hHeld.2.2.2.2.2.2.2.2.2.2.2.2.1 HA.out, cell_on hHeld.2.2.2.2.2.2.2.2.2.2.2.2.2.1 HA.out, cell_on hHeld.2.2.2.2.2.2.2.2.2.2.2.2.2.2.1 HA.out, cell_on hHeld.2.2.2.2.2.2.2.2.2.2.2.2.2.2.2 HA.out⟩) ?_
 clear hK K hHeld
 intro hHeld
 try simp only [Act.put, nmZ]
 refine rd1Z 6 (fun K hK => ?_)
 go_simp
 refine (HRF.out _ (to_ HD.out HA.out) _ _ (il_new W0.drew [1, 5])).mono ?_
 rintro e w3 ⟨v3, rfl, ho3, b3⟩
 obtain ⟨gA, gc, rfl, hil⟩ := own_il ho3
 have HI3 := Hd hil
 have HB3 := Hd (to_ (to_ HD.out HA.out) b3)
 have HS3 := Hd b3
 clear ho3 hil b3
 try go_wp2_with fail
 refine hK.out _ _ (⟨cell_on hHeld.1 HS3.out, cell_on hHeld.2.1 HS3.out, cell_on hHeld.2.2.1 HS3.out, cell_on hHeld.2.2.2.1 HS3.out, cell_on hHeld.2.2.2.2.1 HS3.out, cell_on hHeld.2.2.2.2.2.1 HS3.out, cell_on hHeld.2.2.2.2.2.2.1 HS3.out, cell_on hHeld.2.2.2.2.2.2.2.1 HS3.out, cell_on hHeld.2.2.2.2.2.2.2.2.1 HS3.out, cell_on hHeld.2.2.2.2.2.2.2.2.2.1 HS3.out, cell_on hHeld.2.2.2.2.2.2.2.2.2.2.1 HS3.out, cell_on hHeld.2.2.2.2.2.2.2.2.2.2.2.1 HS3.out, cell_on hHeld.2.2.2.2.2.2.2.2.2.2.2.2.1 HS3.out, cell_on hHeld.2.2.2.2.2.2.2.2.2.2.2.2.2.1 HS3.out, cell_on hHeld.2.2.2.2.2.2.2.2.2.2.2.2.2.2.1 HS3.out, cell_on hHeld.2.2.2.2.2.2.2.2.2.2.2.2.2.2.2 HS3.out⟩) ?_
 clear hK K hHeld
 intro hHeld
 try simp only [Act.put, nmZ]
 refine rd1Z 10 (fun K hK => ?_)
 go_simp
 refine (rising_any w3 _ _ _ _ fn HI3.out HGL.out (by omega)).mono ?_
 rintro e w4 ⟨v4, rfl, ho4, b4⟩
 have HO4 := Hd ho4
 have HB4 := Hd (to_ HB3.out b4)
 have HS4 := Hd b4
 have HZ4 := Hd (show w.heap.size ≤ w3.heap.size from HB3.out.size)
 clear ho4 b4
 try go_wp2_with fail
 refine hK.out _ _ (⟨cell_on hHeld.1 HS4.out, cell_on hHeld.2.1 HS4.out, cell_on hHeld.2.2.1 HS4.out, cell_on hHeld.2.2.2.1 HS4.out, cell_on hHeld.2.2.2.2.1 HS4.out, cell_on hHeld.2.2.2.2.2.1 HS4.out, cell_on hHeld.2.2.2.2.2.2.1 HS4.out, cell_on hHeld.2.2.2.2.2.2.2.1 HS4.out, cell_on hHeld.2.2.2.2.2.2.2.2.1 HS4.out, cell_on hHeld.2.2.2.2.2.2.2.2.2.1 HS4.out, cell_on hHeld.2.2.2.2.2.2.2.2.2.2.1 HS4.out, cell_on hHeld.2.2.2.2.2.2.2.2.2.2.2.1 HS4.out, cell_on hHeld.2.2.2.2.2.2.2.2.2.2.2.2.1 HS4.out, cell_on hHeld.2.2.2.2.2.2.2.2.2.2.2.2.2.1 HS4.out, cell_on hHeld.2.2.2.2.2.2.2.2.2.2.2.2.2.2.1 HS4.out, cell_on hHeld.2.2.2.2.2.2.2.2.2.2.2.2.2.2.2 HS4.out⟩) ?_
 clear hK K hHeld
 intro hHeld
 try simp only [Act.put, nmZ]
 refine tk1Z 11 hHeld ?_
 refine wpAnyH_done (by kernel_rfl) ?_ _
 refine NoPanic.normal ?_
 clear hHeld c0 c1 c2 f0 f1 f2 f3 f4 f5 f6 f7 f8 f9 f10 f11 f12
 go_wp2_with fail
 go_ret
 exact ⟨_, rfl, own_lower HO4.out HZ4.out, HB4.out⟩
theorem encI_one : ∀ x, ∀ u ∈ encI x, u.oneCell' = true := fun x u hu => by
 obtain rfl : u = .int .i64 x := by simpa [encI] using hu
 rfl
theorem run_append_wd {α : Type} {enc : α → List Value} {P : Program} (w : World) (t ty e : TypeId) (i : TypeInfo) (z : Value) (k bytes base : Nat) (ht : P.underlying t = some (.slice e)) (hi : P.info? e = some i) (hz : i.zero = some z)
  (hsize : i.size = k) (hby : i.bytes = bytes) (hzs : z.cells.size = k) (hk0 : 0 < k) (hk : ∀ x, (enc x).length = k) (h1 : ∀ x, ∀ u ∈ enc x, u.oneCell' = true)
  (v : Value) (n0 : Nat) (xs : List Value) (hown : w.ownsRow base e k v n0 xs)
  (A : Option Addr) (m c : Nat) (l : List α) (hr : Wd k enc w w.heap.size A m c l)
  (h63 : n0 + m ≤ maxLen) (hbytes : (n0 + m) * bytes ≤ 140737488355328) (hbase : base ≤ w.heap.size) :
  ∃ v' w', (Builtin.append_ #[t, t] ty #[v, .slice A m c]).run P w = .ok v' w' ∧ w'.ownsRow base e k v' (n0 + m) (xs ++ l.flatMap enc) ∧ w.grownBy w' v.ownBlock ∧ (v'.ownBlock = v.ownBlock ∨ v'.ownBlock = some w.heap.size) := by
 cases A with
 | none =>
  have hc : c = 0 := hr.2.2.2.1 rfl
  have hm : m = 0 := by have := hr.2.1; omega
  have hl : l = [] := List.length_eq_zero_iff.1 (by rw [hr.1, hm])
  subst hc hm hl
  have := run_append_owned_none (P := P) (w := w) base t ty e i k ht hi v n0 xs hown
  exact ⟨v, w, this, by simpa using hown, ⟨rfl, rfl, rfl, Nat.le_refl _, fun _ _ _ => rfl⟩, .inl rfl⟩
 | some ad =>
  obtain ⟨v', w', g1, g2, g3, _, g5⟩ := run_append_own_at (P := P) w base t ty e i z k bytes ht hi hz hsize hby hzs hk0 v n0 xs hown ad m c (l.flatMap enc) (by rw [flat_len hk, hr.1]) (fun j u hu => by
   obtain ⟨y, e1, e2⟩ := flat_of hk0 hk l j u hu
   obtain ⟨ad', ea, _, hcell⟩ := hr.2.2.2.2 _ y e1
   injection ea with ea
   subst ea
   have := hcell _ u e2
   rw [add_twice] at this
   rw [show j / k * k + j % k = j from by rw [Nat.mul_comm]; exact Nat.div_add_mod j k] at this
   exact this) (fun u hu => by
   obtain ⟨y, _, hy⟩ := List.mem_flatMap.1 hu
   exact h1 y u hy) h63 hbytes hbase
  exact ⟨v', w', g1, g2, g3, g5⟩
theorem step_append_wd {α : Type} {enc : α → List Value} {P : Program} {ops : Array Oper} {o : Oper} {a : Act} {w : World} {K : Act → World → Prop} {Q : Exit → Act → World → Prop} {Z : Prop}
  (hgd : o.guard = none) (s x : Operand) (t : TypeId) (ho : o.op = .call { callee := .builtin .append, args := #[s, x], argTypes := #[t, t] })
  (base : Nat) (e : TypeId) (i : TypeInfo) (z : Value) (k bytes : Nat) (ht : P.underlying t = some (.slice e)) (hi : P.info? e = some i) (hz : i.zero = some z)
  (hsize : i.size = k) (hby : i.bytes = bytes) (hzs : z.cells.size = k) (hk0 : 0 < k) (hk : ∀ x, (enc x).length = k) (h1 : ∀ x, ∀ u ∈ enc x, u.oneCell' = true)
  (v : Value) (n0 : Nat) (xs : List Value) (hs : a.eval s = v) (hown : w.ownsRow base e k v n0 xs)
  (A : Option Addr) (m c : Nat) (l : List α) (hx : a.eval x = .slice A m c) (hr : Wd k enc w w.heap.size A m c l)
  (h63 : n0 + m ≤ maxLen) (hbytes : (n0 + m) * bytes ≤ 140737488355328) (hbase : base ≤ w.heap.size)
  (hK : ∀ v' w', w'.ownsRow base e k v' (n0 + m) (xs ++ l.flatMap enc) → w.grownBy w' v.ownBlock → (v'.ownBlock = v.ownBlock ∨ v'.ownBlock = some w.heap.size) → K (a.put o.dst v') w') :
  if Region.wanted o (yielded ops a.tmps) = true then Oper.wp P o a w K Q else Z := by
 have hw : Region.wanted o (yielded ops a.tmps) = true := by simp [Region.wanted, hgd]
 rw [if_pos hw]
 obtain ⟨v', w', hrun, h2, h3, h5⟩ := run_append_wd (P := P) w t o.type e i z k bytes base ht hi hz hsize hby hzs hk0 hk h1 v n0 xs hown A m c l hr h63 hbytes hbase
 unfold Oper.wp execOp
 simp only [ho, resolve, invoke, builtin, Sem.run_bind, Sem.run_pure, Result.andThen_ok, List.map_toArray, List.map_cons, List.map_nil, hs, hx, hrun]
 exact hK v' w' h2 h3 h5
theorem list_append_wd {α : Type} {enc : α → List Value} {P : Program} (w : World) {ops : Array Oper} {rest : List Oper} {o : Oper} {a : Act} {Q : Exit → Act → World → Prop} (hgd : o.guard = none) (s x : Operand) (t : TypeId)
  (ho : o.op = .call { callee := .builtin .append, args := #[s, x], argTypes := #[t, t] })
  (base : Nat) (e : TypeId) (i : TypeInfo) (z : Value) (k bytes : Nat) (ht : P.underlying t = some (.slice e)) (hi : P.info? e = some i) (hz : i.zero = some z)
  (hsize : i.size = k) (hby : i.bytes = bytes) (hzs : z.cells.size = k) (hk0 : 0 < k) (hk : ∀ x, (enc x).length = k) (h1 : ∀ x, ∀ u ∈ enc x, u.oneCell' = true)
  (v : Value) (n0 : Nat) (xs : List Value) (hs : a.eval s = v) (hown : w.ownsRow base e k v n0 xs)
  (A : Option Addr) (m c : Nat) (l : List α) (hx : a.eval x = .slice A m c) (hr : Wd k enc w w.heap.size A m c l)
  (h63 : n0 + m ≤ maxLen) (hbytes : (n0 + m) * bytes ≤ 140737488355328) (hbase : base ≤ w.heap.size)
  (h : ∀ v' w', w'.ownsRow base e k v' (n0 + m) (xs ++ l.flatMap enc) → w.grownBy w' v.ownBlock → (v'.ownBlock = v.ownBlock ∨ v'.ownBlock = some w.heap.size) → wpList P ops Q rest (a.put o.dst v') w') : wpList P ops Q (o :: rest) a w := by
 refine wpList_plain hgd fun K hK => ?_
 obtain ⟨v', w', hrun, h2, h3, h5⟩ := run_append_wd (P := P) w t o.type e i z k bytes base ht hi hz hsize hby hzs hk0 hk h1 v n0 xs hown A m c l hr h63 hbytes hbase
 unfold Oper.wp execOp
 simp only [ho, resolve, invoke, builtin, Sem.run_bind, Sem.run_pure, Result.andThen_ok, List.map_toArray, List.map_cons, List.map_nil, hs, hx, hrun]
 exact hK _ _ (h v' w' h2 h3 h5)
/-! ### what data have -/
def tabsL (P : Pgm) (i : Nat) : List Int := rise P.dn (gatV (gfAt P.fs i) (P.cs i) [4])
def pickL (ds : List Gd) (ts : List Int) : List Int := ts.flatMap fun k => (gdAt ds k.toNat).refs
def valuesL (P : Pgm) (i : Nat) : List Int := rise P.fn (gatV (gfAt P.fs i) (P.cs i) [2] ++ pickL P.ds (tabsL P i))
theorem rise_at {m k : Nat} {l : List Int} (h : k < (rise m l).length) : ∃ t : Nat, t < m ∧ (rise m l).getD k 0 = (t : Int) := by
 have hm : (rise m l).getD k 0 ∈ rise m l := by rw [List.getD_eq_getElem?_getD, List.getElem?_eq_getElem h]; exact List.getElem_mem _
 obtain ⟨t, ht, e⟩ := List.mem_map.1 hm
 exact ⟨t, List.mem_range.1 (List.mem_filter.1 ht).1, e.symm⟩
theorem pick_next {ds : List Gd} {ts : List Int} {k : Nat} {t : Nat} (h : k < ts.length) (ht : ts.getD k 0 = (t : Int)) : pickL ds (ts.take (k + 1)) = pickL ds (ts.take k) ++ (gdAt ds t).refs := by
 unfold pickL
 rw [take_next (d := 0) h, List.flatMap_append, ht]
 simp
theorem pick_len {ds : List Gd} {m : Nat} (hd : ∀ t, t < m → (gdAt ds t).refs.length ≤ 80) {l : List Int} : ∀ k, k ≤ (rise m l).length → (pickL ds ((rise m l).take k)).length ≤ 80 * k
 | 0, _ => by simp [pickL]
 | k + 1, h => by
  obtain ⟨t, ht, e⟩ := rise_at (m := m) (l := l) (k := k) (by omega)
  rw [pick_next (by omega) e, List.length_append]
  have := pick_len hd (l := l) k (by omega)
  have := hd t ht
  omega
set_option maxRecDepth 100000 in
set_option maxHeartbeats 4000000 in
theorem values_doc (w : World) (P : Pgm) (h : PgR w P) (i : Nat) (hi : i < P.fn) :
  Calls Tryz.prog 49 #[pgV P, .int .i64 (i : Int)] w (IOwn w (valuesL P i)) := by
 obtain ⟨iN, hiN, hzN0, hzN1, hzN2⟩ := info_split infoInt
 have hfw := h.few
 have HRF := Hd (fun W (hb : Below w.heap.size w W) An m cm ns hns hm => refs_any W (gfAt P.fs i) (P.cs i) (h.on hb |>.fns i hi) An m cm ns hns hm)
 have HGF := Hd (fun W (hb : Below w.heap.size w W) => gf_at (h.on hb).fr hi)
 have HGL := Hd (show ∀ ns, (gatV (gfAt P.fs i) (P.cs i) ns).length ≤ 1000000 from fun ns => by
  have h9 := (h.fns i hi).few
  have h8 := gatL_len (P.cs i) (gfAt P.fs i).refs (okN ns) (min (gfAt P.fs i).F.code.2.1 (gfAt P.fs i).R.2.1)
  unfold gatV
  omega)
 have HDAT := Hd (fun W (hb : Below w.heap.size w W) t (ht : t < P.dn) => gd_at (h.on hb).dr ht)
 have HDRF := Hd (fun W (hb : Below w.heap.size w W) t (ht : t < P.dn) => ((h.on hb).dats t ht).refs)
 have HPL := Hd (fun l k hk => pick_len (ds := P.ds) (m := P.dn) (fun t ht => by have := (h.dats t ht).few; have := (h.dats t ht).refs.1; omega) (l := l) k hk)
 have HGL2 := Hd (show ∀ ns, (gatV (gfAt P.fs i) (P.cs i) ns).length ≤ 80 from fun ns => by
  have h9 := (h.fns i hi).few
  have h8 := gatL_len (P.cs i) (gfAt P.fs i).refs (okN ns) (min (gfAt P.fs i).F.code.2.1 (gfAt P.fs i).R.2.1)
  unfold gatV
  omega)
 have hiI : (i : Int) < (P.fn : Int) := by omega
 have hi0 : (0 : Int) ≤ (i : Int) := by omega
 unfold valuesL tabsL
 clear h
 obtain ⟨fA, fn, fc, fs, dA, dn, dc, ds, en, cs⟩ := P
 unfold pgV
 dsimp only at HRF HGF HGL hfw hi HDAT HDRF HPL HGL2 hiI ⊢
 obtain ⟨g, hg⟩ : ∃ g, gfAt fs i = g := ⟨_, rfl⟩
 rw [hg] at HRF HGF HGL HGL2 ⊢
 have HG := Hd hg
 clear hg
 obtain ⟨ad, rfl, _, f0, hfc⟩ := HGF.out w (Below.refl _ _)
 have hz := World.block_lt_of_cell? w _ f0
 obtain ⟨c, hcs⟩ : ∃ c, cs i = c := ⟨_, rfl⟩
 rw [hcs] at HRF HGL HGL2 ⊢
 have HCS := Hd hcs
 clear hcs
 obtain ⟨G2, hG2⟩ : ∃ x, gatV g c [2] = x := ⟨_, rfl⟩
 obtain ⟨G4, hG4⟩ : ∃ x, gatV g c [4] = x := ⟨_, rfl⟩
 have HL2 := Hd (show G2.length ≤ 80 from by rw [← hG2]; exact HGL2.out _)
 have HL4 := Hd (show G4.length ≤ 80 from by rw [← hG4]; exact HGL2.out _)
 rw [hG2, hG4]
 have HRF2 := Hd (fun W hw An cm hns => (HRF.out W hw An 1 cm [2] hns (by decide)).mono fun e w' hh => by rw [hG2] at hh; exact (hh : IOwn W G2 e w'))
 have HRF4 := Hd (fun W hw An cm hns => (HRF.out W hw An 1 cm [4] hns (by decide)).mono fun e w' hh => by rw [hG4] at hh; exact (hh : IOwn W G4 e w'))
 clear HRF HGL HGL2 hG2 hG4
 obtain ⟨file, item, nm, ⟨cl, ⟨kA, kn, kc⟩, pd, no, fr, tt, ⟨lA, ln, lc⟩, ⟨cA, cn, cc⟩, ⟨rA, rn, rc⟩⟩, ⟨qA, qn, qc⟩, refs⟩ := g
 have f1 := hfc 0 _ rfl
 have f2 := hfc 1 _ rfl
 have f3 := hfc 2 _ rfl
 have f4 := hfc 3 _ rfl
 have f5 := hfc 4 _ rfl
 have f6 := hfc 5 _ rfl
 have f7 := hfc 6 _ rfl
 have f8 := hfc 7 _ rfl
 have f9 := hfc 8 _ rfl
 have f10 := hfc 9 _ rfl
 have f11 := hfc 10 _ rfl
 have f12 := hfc 11 _ rfl
 unfold encGf slV at HRF2 HRF4
 unfold slV at f4 f9 f10 f11 f12
 dsimp only at HRF2 HRF4 f0 f1 f2 f3 f4 f5 f6 f7 f8 f9 f10 f11 f12
 clear hfc
 obtain ⟨W0, hW0⟩ : ∃ W0, w.alloc (.cells #[.slice (some ad) fn fc, .slice dA dn dc, .int .i64 en] 29) = W0 := ⟨_, rfl⟩
 have HB0 := Hd (show Below w.heap.size w W0 from by rw [← hW0]; exact alloc_ _ _)
 have hbk : Blk W0 w.heap.size 29 #[.slice (some ad) fn fc, .slice dA dn dc, .int .i64 en] := by rw [← hW0]; exact Blk.new _ _ _
 have hz0 := hbk.lt
 have HX := Hd (fun W (hb : Below W0.heap.size W0 W) => show W.cell? ⟨w.heap.size, 0, none⟩ = some (.slice (some ad) fn fc) ∧ W.cell? ⟨w.heap.size, 1, none⟩ = some (.slice dA dn dc) ∧ W.cell? ⟨w.heap.size, 2, none⟩ = some (.int .i64 en) from ⟨(hbk.below hb hbk.lt).cell 0, (hbk.below hb hbk.lt).cell 1, (hbk.below hb hbk.lt).cell 2⟩)
 obtain ⟨c0, c1, c2⟩ := HX.out W0 (Below.refl _ _)
 replace f0 := cell_on f0 HB0.out
 replace f1 := cell_on f1 HB0.out
 replace f2 := cell_on f2 HB0.out
 replace f3 := cell_on f3 HB0.out
 replace f4 := cell_on f4 HB0.out
 replace f5 := cell_on f5 HB0.out
 replace f6 := cell_on f6 HB0.out
 replace f7 := cell_on f7 HB0.out
 replace f8 := cell_on f8 HB0.out
 replace f9 := cell_on f9 HB0.out
 replace f10 := cell_on f10 HB0.out
 replace f11 := cell_on f11 HB0.out
 replace f12 := cell_on f12 HB0.out
 have hzz := World.block_lt_of_cell? W0 _ f0
 clear hbk
 unfold IOwn
 go_enter Tryz.func49, Tryz.ntmps49
 go_wp2_with (go_at_call 93; refine (HRF2.out _ (to_ HB0.out (alloc_ _ _)) _ _ (il_new W0 [2])).mono ?_; rintro e w1 ⟨v5, rfl, ho5, b5⟩; obtain ⟨pA0, pc0, rfl, -⟩ := own_il ho5; have HO5 := Hd ho5; have hb1 := to_ (alloc_ _ _) b5; have HB1 := Hd hb1; have HZ1 := Hd (alloc_ W0 (.cells #[.int .i64 2] 3)).size; replace c0 := cell_on c0 hb1; replace c1 := cell_on c1 hb1; replace c2 := cell_on c2 hb1; replace f0 := cell_on f0 hb1; replace f1 := cell_on f1 hb1; replace f2 := cell_on f2 hb1; replace f3 := cell_on f3 hb1; replace f4 := cell_on f4 hb1; replace f5 := cell_on f5 hb1; replace f6 := cell_on f6 hb1; replace f7 := cell_on f7 hb1; replace f8 := cell_on f8 hb1; replace f9 := cell_on f9 hb1; replace f10 := cell_on f10 hb1; replace f11 := cell_on f11 hb1; replace f12 := cell_on f12 hb1; clear ho5 b5 hb1 hzz)
 clear hW0
 have HD := Hd (show Below w.heap.size w w1.drew from (to_ HB0.out HB1.out).drew)
 have HRF := HRF4
 have HGL := Hd (show G4.length ≤ 1000000 from by have := HL4.out; omega)
 refine wp_region_noPanic ?_
 refine wp_region_held_drew (S := fun W => W.cell? ⟨w.heap.size, 0, none⟩ = some (.slice (some ad) fn fc) ∧ W.cell? ⟨w.heap.size, 1, none⟩ = some (.slice dA dn dc) ∧ W.cell? ⟨w.heap.size, 2, none⟩ = some (.int .i64 en) ∧ W.cell? (ad.add (i * 13)) = some (.int .i64 (file : Int)) ∧ W.cell? ⟨(ad.add (i * 13)).block, (ad.add (i * 13)).off + 1, none⟩ = some (.int .i64 (item : Int)) ∧ W.cell? ⟨(ad.add (i * 13)).block, (ad.add (i * 13)).off + 2, none⟩ = some (.string nm) ∧ W.cell? ⟨(ad.add (i * 13)).block, (ad.add (i * 13)).off + 3, none⟩ = some (.int .i64 cl) ∧ W.cell? ⟨(ad.add (i * 13)).block, (ad.add (i * 13)).off + 4, none⟩ = some (.slice kA kn kc) ∧ W.cell? ⟨(ad.add (i * 13)).block, (ad.add (i * 13)).off + 5, none⟩ = some (.int .i64 pd) ∧ W.cell? ⟨(ad.add (i * 13)).block, (ad.add (i * 13)).off + 6, none⟩ = some (.bool no) ∧ W.cell? ⟨(ad.add (i * 13)).block, (ad.add (i * 13)).off + 7, none⟩ = some (.int .i64 fr) ∧ W.cell? ⟨(ad.add (i * 13)).block, (ad.add (i * 13)).off + 8, none⟩ = some (.int .i64 tt) ∧ W.cell? ⟨(ad.add (i * 13)).block, (ad.add (i * 13)).off + 9, none⟩ = some (.slice lA ln lc) ∧ W.cell? ⟨(ad.add (i * 13)).block, (ad.add (i * 13)).off + 10, none⟩ = some (.slice cA cn cc) ∧ W.cell? ⟨(ad.add (i * 13)).block, (ad.add (i * 13)).off + 11, none⟩ = some (.slice rA rn rc) ∧ W.cell? ⟨(ad.add (i * 13)).block, (ad.add (i * 13)).off + 12, none⟩ = some (.slice qA qn qc)) (by kernel_rfl) (⟨c0, c1, c2, f0, f1, f2, f3, f4, f5, f6, f7, f8, f9, f10, f11, f12⟩) (fun hHeld => ?_)
 refine tk8Z 0 1 2 3 4 7 8 9 hHeld ?_
 refine rd1Z 5 (fun K hK => ?_)
 go_simp
 have HA := Hd (alloc_ w1.drew (.cells #[.int .i64 4] 3))
 refine hK.out _ _ (⟨cell_on hHeld.1 HA.out, cell_on hHeld.2.1 HA.out, cell_on hHeld.2.2.1 HA.out, cell_on hHeld.2.2.2.1 HA.out, cell_on hHeld.2.2.2.2.1 HA.out, cell_on hHeld.2.2.2.2.2.1 HA.out, cell_on hHeld.2.2.2.2.2.2.1 HA.out, cell_on hHeld.2.2.2.2.2.2.2.1 HA.out, cell_on hHeld.2.2.2.2.2.2.2.2.1 HA.out, cell_on hHeld.2.2.2.2.2.2.2.2.2.1 HA.out, cell_on hHeld.2.2.2.2.2.2.2.2.2.2.1 HA.out, cell_on hHeld.2.2.2.2.2.2.2.2.2.2.2.1 HA.out, cell_on hHeld.2.2.2.2.2.2.2.2.2.2.2.2.1 HA.out, cell_on hHeld.2.2.2.2.2.2.2.2.2.2.2.2.2.1 HA.out, cell_on hHeld.2.2.2.2.2.2.2.2.2.2.2.2.2.2.1 HA.out, cell_on hHeld.2.2.2.2.2.2.2.2.2.2.2.2.2.2.2 HA.out⟩) ?_
 clear hK K hHeld
 intro hHeld
 try simp only [Act.put, nmZ]
 refine rd1Z 6 (fun K hK => ?_)
 go_simp
 refine (HRF.out _ (to_ HD.out HA.out) _ _ (il_new w1.drew [4])).mono ?_
 rintro e w3 ⟨v3, rfl, ho3, b3⟩
 obtain ⟨gA, gc, rfl, hil⟩ := own_il ho3
 have HI3 := Hd hil
 have HB3 := Hd (to_ (to_ HD.out HA.out) b3)
 have HS3 := Hd b3
 clear ho3 hil b3
 try go_wp2_with fail
 refine hK.out _ _ (⟨cell_on hHeld.1 HS3.out, cell_on hHeld.2.1 HS3.out, cell_on hHeld.2.2.1 HS3.out, cell_on hHeld.2.2.2.1 HS3.out, cell_on hHeld.2.2.2.2.1 HS3.out, cell_on hHeld.2.2.2.2.2.1 HS3.out, cell_on hHeld.2.2.2.2.2.2.1 HS3.out, cell_on hHeld.2.2.2.2.2.2.2.1 HS3.out, cell_on hHeld.2.2.2.2.2.2.2.2.1 HS3.out, cell_on hHeld.2.2.2.2.2.2.2.2.2.1 HS3.out, cell_on hHeld.2.2.2.2.2.2.2.2.2.2.1 HS3.out, cell_on hHeld.2.2.2.2.2.2.2.2.2.2.2.1 HS3.out, cell_on hHeld.2.2.2.2.2.2.2.2.2.2.2.2.1 HS3.out, cell_on hHeld.2.2.2.2.2.2.2.2.2.2.2.2.2.1 HS3.out, cell_on hHeld.2.2.2.2.2.2.2.2.2.2.2.2.2.2.1 HS3.out, cell_on hHeld.2.2.2.2.2.2.2.2.2.2.2.2.2.2.2 HS3.out⟩) ?_
 clear hK K hHeld
 intro hHeld
 try simp only [Act.put, nmZ]
 refine rd1Z 10 (fun K hK => ?_)
 go_simp
 refine (rising_any w3 _ _ _ _ dn HI3.out HGL.out (by omega)).mono ?_
 rintro e w4 ⟨v4, rfl, ho4, b4⟩
 have HO4 := Hd ho4
 have HB4 := Hd (to_ HB3.out b4)
 have HS4 := Hd b4
 have HZ4 := Hd (show w.heap.size ≤ w3.heap.size from HB3.out.size)
 clear ho4 b4
 try go_wp2_with fail
 refine hK.out _ _ (⟨cell_on hHeld.1 HS4.out, cell_on hHeld.2.1 HS4.out, cell_on hHeld.2.2.1 HS4.out, cell_on hHeld.2.2.2.1 HS4.out, cell_on hHeld.2.2.2.2.1 HS4.out, cell_on hHeld.2.2.2.2.2.1 HS4.out, cell_on hHeld.2.2.2.2.2.2.1 HS4.out, cell_on hHeld.2.2.2.2.2.2.2.1 HS4.out, cell_on hHeld.2.2.2.2.2.2.2.2.1 HS4.out, cell_on hHeld.2.2.2.2.2.2.2.2.2.1 HS4.out, cell_on hHeld.2.2.2.2.2.2.2.2.2.2.1 HS4.out, cell_on hHeld.2.2.2.2.2.2.2.2.2.2.2.1 HS4.out, cell_on hHeld.2.2.2.2.2.2.2.2.2.2.2.2.1 HS4.out, cell_on hHeld.2.2.2.2.2.2.2.2.2.2.2.2.2.1 HS4.out, cell_on hHeld.2.2.2.2.2.2.2.2.2.2.2.2.2.2.1 HS4.out, cell_on hHeld.2.2.2.2.2.2.2.2.2.2.2.2.2.2.2 HS4.out⟩) ?_
 clear hK K hHeld
 intro hHeld
 try simp only [Act.put, nmZ]
 refine tk1Z 11 hHeld ?_
 refine wpAnyH_done (by kernel_rfl) ?_ _
 refine NoPanic.normal ?_
 clear hHeld c0 c1 c2 f0 f1 f2 f3 f4 f5 f6 f7 f8 f9 f10 f11 f12
 go_wp2_with fail
 obtain ⟨tA, tc, rfl, -⟩ := own_il HO4.out
 have HB14 := Hd (to_ (to_ (to_ (Below.refl _ w1).drew HA.out) HS3.out) HS4.out)
 have HSZ := Hd (show w1.heap.size ≤ w3.heap.size from Nat.le_trans (to_ (Below.refl _ w1).drew HA.out).size HS3.out.size)
 have HV0 := Hd (show w4.ownsRow W0.heap.size 3 1 (.slice pA0 G2.length pc0) G2.length (G2.flatMap encI) from own_lower (own_on HO5.out HB14.out) HZ1.out)
 have HAP0 := Hd (show (Value.slice pA0 G2.length pc0).ownBlock = none ∨ (Value.slice pA0 G2.length pc0).ownBlock ≠ (Value.slice tA (rise dn G4).length tc).ownBlock from by
  cases pA0 with
  | none => exact .inl rfl
  | some p0 =>
   refine .inr fun e => ?_
   have h1 := (HO5.out.lt p0.block rfl).2
   have h2 := (HO4.out.lt p0.block e.symm).1
   have := HSZ.out
   omega)
 have HB04 := Hd (to_ HB1.out HB14.out)
 obtain ⟨Ts, hTs⟩ : ∃ x, rise dn G4 = x := ⟨_, rfl⟩
 have HTE := Hd hTs
 have HTAT := Hd (fun k (hk : k < Ts.length) => show ∃ t : Nat, t < dn ∧ Ts.getD k 0 = (t : Int) from by subst hTs; exact rise_at hk)
 have HTPL := Hd (fun k (hk : k ≤ Ts.length) => show (pickL ds (Ts.take k)).length ≤ 80 * k from by subst hTs; exact HPL.out G4 k hk)
 have HTL := Hd (show Ts.length ≤ 24 from by rw [← hTs]; exact Nat.le_trans (rise_len _ _) hfw.2)
 rw [hTs] at HO4 HAP0 ⊢
 clear hTs HA HS3 HS4 HO5 HI3
 obtain ⟨T, hT⟩ : ∃ x, Ts.length = x := ⟨_, rfl⟩
 have HT9 := Hd hT
 rw [hT] at HO4 HAP0 HTAT HTPL HTL ⊢
 have HTAL := Hd (show Ts.take T = Ts from by rw [← hT, List.take_length])
 have hT24 : T ≤ 24 := HTL.out
 clear hT
 go_wp2_with fail
 go_loopw [5, 7] (fun v9 i9 wr => ∃ k : Nat, k ≤ T ∧ i9 = .int .i64 (k : Int) ∧ Hid (wr.ownsRow W0.heap.size 3 1 v9 (G2 ++ pickL ds (Ts.take k)).length ((G2 ++ pickL ds (Ts.take k)).flatMap encI)) ∧ Hid (wr.ownsRow w3.heap.size 3 1 (.slice tA T tc) T (Ts.flatMap encI)) ∧ Hid (v9.ownBlock = none ∨ v9.ownBlock ≠ (Value.slice tA T tc).ownBlock) ∧ Hid (Below W0.heap.size W0 wr)) (fun _ i9 _ => T - (intOf i9).toNat)
 case atStart => exact ⟨0, Nat.zero_le _, rfl, Hd (by rw [show pickL ds (Ts.take 0) = [] from rfl, List.append_nil]; exact HV0.out), HO4, HAP0, HB04⟩
 case round =>
  obtain ⟨k, hk, rfl, HV5, HTR, HAP, HBE⟩ := hrel
  obtain ⟨c0, c1, c2⟩ := HX.out wr HBE.out
  have HBW := Hd (to_ HB0.out HBE.out)
  obtain ⟨X5, hX5⟩ : ∃ x, G2 ++ pickL ds (Ts.take k) = x := ⟨_, rfl⟩
  have HX5 := Hd hX5
  obtain ⟨q5, hq5⟩ : ∃ x, X5.length = x := ⟨_, rfl⟩
  have HXL := Hd hq5
  have HQ5 := Hd (show q5 ≤ 80 + 80 * k from by
   have h1 := HTPL.out k hk
   have h2 := HL2.out
   rw [← hq5, ← hX5, List.length_append]; omega)
  rw [hX5] at HV5
  rw [hq5] at HV5
  clear hX5 hq5
  obtain ⟨pA, pc, rfl⟩ := own_form HV5.out
  by_cases hlt : k < T
  ·have hkI : (k : Int) < (T : Int) := by omega
   have hk0 : (0 : Int) ≤ (k : Int) := by omega
   obtain ⟨t, ht, het⟩ := HTAT.out k hlt
   have htI : (t : Int) < (dn : Int) := by omega
   have ht0 : (0 : Int) ≤ (t : Int) := by omega
   have HTIL := Hd (show IL wr tA T tc Ts from by
    obtain ⟨A', c', e, hh⟩ := wd_own encI_len HT9.out HTR.out
    injection e with e1 e2 e3
    subst e1 e3; exact hh)
   obtain ⟨ta, rfl, htb, z0⟩ := HTIL.out.at_ hlt
   rw [het] at z0
   obtain ⟨bd, rfl, hbb, -, hdc⟩ := HDAT.out wr HBW.out t ht
   obtain ⟨bd2, e2, hbb2, -⟩ := HDAT.out w (Below.refl _ _) t ht
   obtain rfl := Option.some.inj e2
   have s0 := hdc 5 _ rfl
   have HDR := Hd (HDRF.out wr HBW.out t ht)
   have HPN := Hd (pick_next (ds := ds) (ts := Ts) (k := k) (t := t) (by rw [HT9.out]; exact hlt) het)
   have HPN2 := Hd (HTPL.out (k + 1) (by omega))
   clear hdc e2 het
   obtain ⟨⟨dfile, ditem, dnm, dD, ⟨sA, sn, sc⟩, drefs⟩, hd⟩ : ∃ d, gdAt ds t = d := ⟨_, rfl⟩
   rw [hd] at s0 HDR HPN
   unfold slV at s0
   dsimp only at s0 HDR HPN
   clear hd
   have HSN := Hd (show sn ≤ 80 * (k + 1) from by
    have h1 := HPN2.out
    rw [HPN.out, List.length_append] at h1
    have h2 := HDR.out.1
    omega)
   have HN0 := Hd (show (Value.slice pA q5 pc).ownBlock ≠ some w.heap.size from own_ne HV5.out hz0)
   have HND := Hd (show (Value.slice pA q5 pc).ownBlock ≠ some bd.block from own_ne HV5.out (by omega))
   have HNT := Hd (show (Value.slice pA q5 pc).ownBlock ≠ some ta.block from by
    rcases HAP.out with h | h
    ·rw [h]; simp
    ·exact h)
   have HB5z := Hd HBE.out.size
   have HLT := Hd hlt
   clear hbb hbb2 htb
   go_wp2_with fail
   refine wp_region_noPanic ?_
   refine wp_region_held_drew (S := fun W => W.cell? (⟨w.heap.size, 0, none⟩) = some (.slice (some ad) fn fc) ∧ W.cell? (⟨w.heap.size, 1, none⟩) = some (.slice (some bd) dn dc) ∧ W.cell? (⟨w.heap.size, 2, none⟩) = some (.int .i64 en) ∧ W.cell? (ta.add k) = some (.int .i64 (t : Int)) ∧ W.cell? (⟨(bd.add (t * 7)).block, (bd.add (t * 7)).off + 6, none⟩) = some (.slice sA sn sc)) (by kernel_rfl) (⟨c0, c1, c2, z0, s0⟩) (fun hHeld => ?_)
   refine tk8Z 0 1 2 3 4 5 6 7 hHeld ?_
   refine tk2Z 8 9 hHeld ?_
   refine rd1Z 10 (fun K hK => ?_)
   refine step_append_wd rfl _ _ 44 rfl W0.heap.size 3 iN (.int .i64 0) 1 8 Tryz.underlying44 hiN hzN0 hzN1 hzN2 rfl (by decide) encI_len encI_one _ q5 (X5.flatMap encI) rfl (show wr.drew.ownsRow W0.heap.size 3 1 (.slice pA q5 pc) q5 (X5.flatMap encI) from HV5.out) sA sn sc drefs rfl (show Wd 1 encI wr.drew wr.drew.heap.size sA sn sc drefs from HDR.out) (by unfold maxLen; have := HQ5.out; have := HSN.out; omega) (by have := HQ5.out; have := HSN.out; omega) (show W0.heap.size ≤ wr.drew.heap.size from HB5z.out) ?_
   intro v6 w6 h2 h3 h5
   have H2 := Hd h2
   have H3 := Hd h3
   have H5 := Hd h5
   have HSS := Hd (And.intro (cell_step hHeld.1 h3 HN0.out) (And.intro (cell_step hHeld.2.1 h3 HN0.out) (And.intro (cell_step hHeld.2.2.1 h3 HN0.out) (And.intro (cell_step hHeld.2.2.2.1 h3 (by show (Value.slice pA q5 pc).ownBlock ≠ some (ta.add k).block; rw [add_block]; exact HNT.out)) (cell_step hHeld.2.2.2.2 h3 (by show (Value.slice pA q5 pc).ownBlock ≠ some (bd.add (t * 7)).block; rw [add_block]; exact HND.out))))))
   clear h2 h3 h5
   refine hK.out _ _ (HSS.out) ?_
   clear hK K hHeld
   intro hHeld
   try simp only [Act.put, nmZ]
   refine tk1Z 11 hHeld ?_
   refine wpAnyH_done (by kernel_rfl) ?_ _
   refine NoPanic.normal ?_
   go_wp2_with fail
   clear c0 c1 c2 z0 s0 hHeld
   go_roundw
   case rel =>
    have hX9 : G2 ++ pickL ds (Ts.take (k + 1)) = X5 ++ drefs := by rw [HPN.out, ← List.append_assoc, HX5.out]
    have hsn : drefs.length = sn := HDR.out.1
    have hkp : w6.ownsRow w3.heap.size 3 1 (.slice (some ta) T tc) T (Ts.flatMap encI) := (show wr.drew.ownsRow w3.heap.size 3 1 (.slice (some ta) T tc) T (Ts.flatMap encI) from HTR.out).kept H3.out (.inr fun e => HNT.out e.symm)
    refine ⟨k + 1, by have := HLT.out; omega, by go_num, Hd ?_, Hd hkp, Hd ?_, Hd ?_⟩
    ·rw [hX9, List.length_append, HXL.out, hsn, flatI]; exact H2.out
    ·rcases H5.out with h | h
     ·rw [h]; exact HAP.out
     ·refine .inr fun e => ?_
      rw [h] at e
      have h1 := (HTR.out.lt ta.block rfl).2
      have h2 : some wr.drew.heap.size = some ta.block := e
      injection h2 with h2
      have h3 : wr.drew.heap.size = wr.heap.size := rfl
      omega
    ·exact HBE.out.drew.grown H3.out HBE.out.size fun r e => (HV5.out.lt r e).1
   case measure => have := HLT.out; simp [intOf]; omega
  ·obtain rfl : T = k := by omega
   have HXX := Hd (show G2 ++ pickL ds Ts = X5 from by rw [← HX5.out, HTAL.out])
   have HIL5 := Hd (show IL wr pA q5 pc X5 from by
    obtain ⟨A', c', e, hh⟩ := wd_own encI_len HXL.out HV5.out
    injection e with e1 e2 e3
    subst e1 e3; exact hh)
   have HRI := Hd (rising_any wr pA q5 pc X5 fn HIL5.out (by have := HQ5.out; omega) (by omega))
   unfold IOwn at HRI
   go_wp2_with (go_at_call 94; refine HRI.out.mono ?_; rintro e w9 ⟨v9, rfl, ho9, b9⟩; have HO9 := Hd ho9; have HB9 := Hd b9; clear ho9 b9)
   go_ret
   exact ⟨_, rfl, (by have h := own_lower HO9.out HBW.out.size; rw [← HXX.out, ← HTE.out] at h; exact h), to_ HBW.out HB9.out⟩
def directL (P : Pgm) (i : Nat) : List Int := rise P.fn (gatV (gfAt P.fs i) (P.cs i) [1, 5])
def refersL (P : Pgm) (i : Nat) : List Int := rise P.fn (directL P i ++ valuesL P i)
def viaG (cs : List By.In5) (k : Nat) : List Int := ((List.range k).filter fun j => decide ((By.inAt cs j).1 = 20)).map fun j => (By.inAt cs j).2.2.2.1
theorem viaG_succ (cs : List By.In5) (k : Nat) : viaG cs (k + 1) = viaG cs k ++ (if (By.inAt cs k).1 = 20 then [(By.inAt cs k).2.2.2.1] else []) := by
 unfold viaG
 rw [List.range_succ, List.filter_append, List.map_append]
 by_cases h : (By.inAt cs k).1 = 20
 ·rw [if_pos h]; simp only [List.filter_cons, List.filter_nil]; rw [if_pos (by simp [h])]; rfl
 ·rw [if_neg h]; simp only [List.filter_cons, List.filter_nil]; rw [if_neg (by simp [h])]; rfl
theorem viaG_len (cs : List By.In5) (k : Nat) : (viaG cs k).length ≤ k := by
 unfold viaG; rw [List.length_map]; exact Nat.le_trans (List.length_filter_le _ _) (by simp)
def viasL (P : Pgm) (i : Nat) : List Int := rise 8 (viaG (P.cs i) (gfAt P.fs i).F.code.2.1)
theorem own_row {w : World} {B n : Nat} {A : Option Addr} {c : Nat} {L : List Int} (hl : L.length = n) (h : w.ownsRow B 3 1 (.slice A n c) n (L.flatMap encI)) : IL w A n c L := by
 obtain ⟨A', c', e, hh⟩ := wd_own encI_len hl h
 injection e with e1 e2 e3
 subst e1 e3; exact hh
set_option maxRecDepth 100000 in
set_option maxHeartbeats 4000000 in
theorem refers_doc (w : World) (P : Pgm) (h : PgR w P) (i : Nat) (hi : i < P.fn) :
  Calls Tryz.prog 85 #[pgV P, .int .i64 (i : Int)] w (IOwn w (refersL P i)) := by
 obtain ⟨iN, hiN, hzN0, hzN1, hzN2⟩ := info_split infoInt
 have hfw := h.few
 have hiI : (i : Int) < (P.fn : Int) := by omega
 have hi0 : (0 : Int) ≤ (i : Int) := by omega
 have HDI := Hd (fun W (hb : Below w.heap.size w W) => direct_doc W P (h.on hb) i hi)
 have HVA := Hd (fun W (hb : Below w.heap.size w W) => values_doc W P (h.on hb) i hi)
 have hd24 : (directL P i).length ≤ 24 := Nat.le_trans (rise_len _ _) hfw.1
 have hv24 : (valuesL P i).length ≤ 24 := Nat.le_trans (rise_len _ _) hfw.1
 unfold refersL
 clear h hi
 obtain ⟨fA, fn, fc, fs, dA, dn, dc, ds, en, cs⟩ := P
 unfold pgV at HDI HVA ⊢
 dsimp only at HDI HVA hfw hiI ⊢
 obtain ⟨L1, hL1⟩ : ∃ x, directL ⟨fA, fn, fc, fs, dA, dn, dc, ds, en, cs⟩ i = x := ⟨_, rfl⟩
 obtain ⟨L2, hL2⟩ : ∃ x, valuesL ⟨fA, fn, fc, fs, dA, dn, dc, ds, en, cs⟩ i = x := ⟨_, rfl⟩
 replace HDI := Hd (fun W hw => show Calls _ _ _ W (IOwn W L1) from by rw [← hL1]; exact HDI.out W hw)
 rw [hL2] at HVA hv24
 rw [hL1] at hd24
 rw [hL1, hL2]
 clear hL1 hL2
 obtain ⟨W0, hW0⟩ : ∃ W0, w.alloc (.cells #[.slice fA fn fc, .slice dA dn dc, .int .i64 en] 29) = W0 := ⟨_, rfl⟩
 have HB0 := Hd (show Below w.heap.size w W0 from by rw [← hW0]; exact alloc_ _ _)
 have hbk : Blk W0 w.heap.size 29 #[.slice fA fn fc, .slice dA dn dc, .int .i64 en] := by rw [← hW0]; exact Blk.new _ _ _
 have hz0 := hbk.lt
 have HX := Hd (fun W (hb : Below W0.heap.size W0 W) => show W.cell? ⟨w.heap.size, 0, none⟩ = some (.slice fA fn fc) ∧ W.cell? ⟨w.heap.size, 1, none⟩ = some (.slice dA dn dc) ∧ W.cell? ⟨w.heap.size, 2, none⟩ = some (.int .i64 en) from ⟨(hbk.below hb hbk.lt).cell 0, (hbk.below hb hbk.lt).cell 1, (hbk.below hb hbk.lt).cell 2⟩)
 obtain ⟨c0, c1, c2⟩ := HX.out W0 (Below.refl _ _)
 clear hbk
 unfold IOwn at HDI HVA ⊢
 go_enter Tryz.func85, Tryz.ntmps85
 go_wp2_with (go_at_call 84; refine (HDI.out _ HB0.out).mono ?_; rintro e w1 ⟨v1, rfl, ho1, b1⟩; obtain ⟨dA1, dc1, rfl, hil1⟩ := own_il ho1; have HIL1 := Hd hil1; have HB1 := Hd b1; clear ho1 hil1 b1; go_wp2_with (at_builtin; go_loud (refine list_append_wd _ rfl _ _ 44 rfl W0.heap.size 3 iN (.int .i64 0) 1 8 Tryz.underlying44 hiN hzN0 hzN1 hzN2 rfl (by decide) encI_len encI_one _ 0 [] rfl (World.ownsRow_nil _ _ _ _) dA1 L1.length dc1 L1 rfl HIL1.out (by unfold maxLen; omega) (by omega) HB1.out.size ?_; intro v2 w2 h2 h3 _; rw [Nat.zero_add, List.nil_append] at h2; obtain ⟨eA2, ec2, rfl⟩ := own_form h2; have HO2 := Hd h2; have HB2 := Hd (HB1.out.grown h3 HB1.out.size (fun r e => by cases e)); obtain ⟨c0, c1, c2⟩ := HX.out w2 HB2.out; clear h2 h3; go_wp2_with (go_at_call 49; refine (HVA.out _ (to_ HB0.out HB2.out)).mono ?_; rintro e w3 ⟨v3, rfl, ho3, b3⟩; obtain ⟨dA3, dc3, rfl, hil3⟩ := own_il ho3; have HIL3 := Hd hil3; have HB3 := Hd b3; clear ho3 hil3 b3; go_wp2_with (at_builtin; go_loud (refine list_append_wd _ rfl _ _ 44 rfl W0.heap.size 3 iN (.int .i64 0) 1 8 Tryz.underlying44 hiN hzN0 hzN1 hzN2 rfl (by decide) encI_len encI_one _ L1.length (L1.flatMap encI) rfl (own_on HO2.out HB3.out) dA3 L2.length dc3 L2 rfl HIL3.out (by unfold maxLen; omega) (by omega) (to_ HB2.out HB3.out).size ?_; intro v4 w4 h4 h5 _; obtain ⟨eA4, ec4, rfl⟩ := own_form h4; have HO4 := Hd h4; have HB4 := Hd ((to_ HB2.out HB3.out).grown h5 (to_ HB2.out HB3.out).size (fun r e => (HO2.out.lt r e).1)); obtain ⟨c0, c1, c2⟩ := HX.out w4 HB4.out; clear h4 h5))))))
 have HR := Hd (rising_any w4 eA4 (L1.length + L2.length) ec4 (L1 ++ L2) fn (own_row (by simp) (by have := HO4.out; rw [← flatI] at this; exact this)) (by omega) (by omega))
 unfold IOwn at HR
 go_wp2_with (go_at_call 94; refine HR.out.mono ?_; rintro e w9 ⟨v9, rfl, ho9, b9⟩; have HO9 := Hd ho9; have HB9 := Hd b9; clear ho9 b9)
 go_ret
 exact ⟨_, rfl, own_lower HO9.out (to_ HB0.out HB4.out).size, to_ (to_ HB0.out HB4.out) HB9.out⟩
set_option maxRecDepth 100000 in
set_option maxHeartbeats 4000000 in
theorem vias_doc (w : World) (P : Pgm) (h : PgR w P) (i : Nat) (hi : i < P.fn) :
  Calls Tryz.prog 86 #[pgV P, .int .i64 (i : Int)] w (IOwn w (viasL P i)) := by
 obtain ⟨iN, hiN, hzN0, hzN1, hzN2⟩ := info_split infoInt
 have hfw := h.few
 have hiI : (i : Int) < (P.fn : Int) := by omega
 have hi0 : (0 : Int) ≤ (i : Int) := by omega
 have HC := Hd (fun W (hb : Below w.heap.size w W) k (hk : k < (gfAt P.fs i).F.code.2.1) => in_at ((h.on hb).fns i hi).code hk)
 have HGF := Hd (fun W (hb : Below w.heap.size w W) => gf_at (h.on hb).fr hi)
 have hc80 := (h.fns i hi).few.1
 unfold viasL
 clear h hi
 obtain ⟨fA, fn, fc, fs, dA, dn, dc, ds, en, cs⟩ := P
 unfold pgV
 dsimp only at HC HGF hfw hiI hc80 ⊢
 obtain ⟨g, hg⟩ : ∃ g, gfAt fs i = g := ⟨_, rfl⟩
 rw [hg] at HC HGF hc80 ⊢
 clear hg
 obtain ⟨ad, rfl, -⟩ := HGF.out w (Below.refl _ _)
 obtain ⟨file, item, nm, ⟨cl, kds, pd, no, fr, tt, lns, ⟨cA, cn, cc⟩, rel⟩, R, refs⟩ := g
 dsimp only at HC hc80 ⊢
 have HF := Hd (fun W (hb : Below w.heap.size w W) => show W.cell? ⟨(ad.add (i * 13)).block, (ad.add (i * 13)).off + 10, none⟩ = some (.slice cA cn cc) from by
  obtain ⟨a9, e9, _, _, hh⟩ := HGF.out W hb
  obtain rfl := Option.some.inj e9
  exact hh 9 _ rfl)
 generalize cs i = c9 at HC ⊢
 have HS := Hd (fun k => viaG_succ c9 k)
 have HL := Hd (fun k => viaG_len c9 k)
 clear HGF
 obtain ⟨W0, hW0⟩ : ∃ W0, w.alloc (.cells #[.slice (some ad) fn fc, .slice dA dn dc, .int .i64 en] 29) = W0 := ⟨_, rfl⟩
 have HB0 := Hd (show Below w.heap.size w W0 from by rw [← hW0]; exact alloc_ _ _)
 have hbk : Blk W0 w.heap.size 29 #[.slice (some ad) fn fc, .slice dA dn dc, .int .i64 en] := by rw [← hW0]; exact Blk.new _ _ _
 have hz0 := hbk.lt
 have HX := Hd (fun W (hb : Below W0.heap.size W0 W) => show W.cell? ⟨w.heap.size, 0, none⟩ = some (.slice (some ad) fn fc) ∧ W.cell? ⟨w.heap.size, 1, none⟩ = some (.slice dA dn dc) ∧ W.cell? ⟨w.heap.size, 2, none⟩ = some (.int .i64 en) from ⟨(hbk.below hb hbk.lt).cell 0, (hbk.below hb hbk.lt).cell 1, (hbk.below hb hbk.lt).cell 2⟩)
 obtain ⟨c0, c1, c2⟩ := HX.out W0 (Below.refl _ _)
 clear hbk
 unfold IOwn
 go_enter Tryz.func86, Tryz.ntmps86
 go_wp2_with fail
 clear hW0 c0 c1 c2
 go_loopw [5, 6] (fun v9 i9 wr => ∃ k : Nat, k ≤ cn ∧ i9 = .int .i64 (k : Int) ∧ Hid (wr.ownsRow W0.heap.size 3 1 v9 (viaG c9 k).length ((viaG c9 k).flatMap encI)) ∧ Hid (Below W0.heap.size W0 wr)) (fun _ i9 _ => cn - (intOf i9).toNat)
 case atStart => exact ⟨0, Nat.zero_le _, rfl, Hd (World.ownsRow_nil _ _ _ _), Hd (Below.refl _ _)⟩
 case round =>
  obtain ⟨k, hk, rfl, HOW, HBE⟩ := hrel
  obtain ⟨c0, c1, c2⟩ := HX.out wr HBE.out
  have HBW := Hd (to_ HB0.out HBE.out)
  have f10 := HF.out wr HBW.out
  obtain ⟨q, hq⟩ : ∃ q, (viaG c9 k).length = q := ⟨_, rfl⟩
  have HQ := Hd hq
  have hl9 := HL.out k
  rw [hq] at hl9
  obtain ⟨pA, pc, rfl⟩ := own_form HOW.out
  have HW : Hid (wr.ownsRow W0.heap.size 3 1 (.slice pA (viaG c9 k).length pc) q ((viaG c9 k).flatMap encI)) := Hd (by rw [← HQ.out]; exact HOW.out)
  rw [hq] at HW ⊢
  clear hq
  by_cases hlt : k < cn
  ·have hkI : (k : Int) < (cn : Int) := by omega
   have hk0 : (0 : Int) ≤ (k : Int) := by omega
   obtain ⟨cad, rfl, hz1, z0, -, -, z3, -⟩ := HC.out wr HBW.out k hlt
   have hs := HS.out k
   obtain ⟨op, hop⟩ : ∃ x, (By.inAt c9 k).1 = x := ⟨_, rfl⟩
   obtain ⟨cl9, hcl⟩ : ∃ x, (By.inAt c9 k).2.2.2.1 = x := ⟨_, rfl⟩
   rw [hop] at z0
   have hs : viaG c9 (k + 1) = viaG c9 k ++ (if op = 20 then [(By.inAt c9 k).2.2.2.1] else []) := by rw [hs, ← hop]
   rw [hcl] at z3 hs
   clear hop hcl
   by_cases e : op = 20
   ·have e' : (op == 20) = true := by simp [e]
    rw [if_pos e] at hs
    have HX9 := Hd hs
    clear hs e
    go_wp2_with (at_builtin; go_loud (refine wpList_append_own _ rfl _ _ 44 rfl W0.heap.size 3 iN (.int .i64 0) 1 8 Tryz.underlying44 hiN hzN0 hzN1 hzN2 rfl (by decide) _ q ((viaG c9 k).flatMap encI) rfl (own_on HW.out (alloc_ _ _)) ⟨wr.heap.size, 0, none⟩ 1 1 [.int .i64 cl9] rfl rfl (one_new wr _ 3) (by simp [Value.oneCell']) (by unfold maxLen; omega) (by omega) (by have := HBE.out.size; simp; omega) ?_; intro v' w' h2 h3 _; have H2 := Hd h2; have H3 := Hd h3; clear h2 h3))
    go_roundw
    case rel => exact ⟨k + 1, by omega, by go_num, Hd (by rw [HX9.out, List.length_append, HQ.out, flatI]; exact H2.out), Hd ((to_ HBE.out (alloc_ _ _)).grown H3.out (to_ HBE.out (alloc_ _ _)).size fun r e => (HW.out.lt r e).1)⟩
    case measure => simp [intOf]; omega
   ·have e' : (op == 20) = false := by simp [e]
    rw [if_neg e, List.append_nil] at hs
    have HX9 := Hd hs
    clear hs e
    go_wp2_with fail
    go_roundw
    case rel => exact ⟨k + 1, by omega, by go_num, Hd (by rw [HX9.out, HQ.out]; exact HW.out), HBE⟩
    case measure => simp [intOf]; omega
  ·obtain rfl : cn = k := by omega
   have HR := Hd (rising_any wr pA q pc (viaG c9 cn) 8 (own_row HQ.out HW.out) (by omega) (by omega))
   unfold IOwn at HR
   go_wp2_with (go_at_call 94; refine HR.out.mono ?_; rintro e w9 ⟨v9, rfl, ho9, b9⟩; have HO9 := Hd ho9; have HB9 := Hd b9; clear ho9 b9)
   go_ret
   exact ⟨_, rfl, own_lower HO9.out HBW.out.size, to_ HBW.out HB9.out⟩
theorem infoRow : (Tryz.prog.info? 44).map (fun i => (i.zero, i.size, i.bytes)) = some (some (.slice none 0 0), 1, 24) := by kernel_rfl
def rowO (g : List (List Int)) (a : Nat) : List Int := g.getD a []
def OutI (w : World) (B : Nat) (ov : Value) (L : List (List Int)) : Prop :=
 ∃ rs : List Value, rs.length = L.length ∧ w.ownsRow B 44 1 ov L.length rs ∧ ∀ (i : Nat) rv, rs[i]? = some rv → w.ownsRow B 3 1 rv (rowO L i).length ((rowO L i).flatMap encI)
theorem OutI.nil (w : World) (B : Nat) : OutI w B (.slice none 0 0) [] := ⟨[], rfl, World.ownsRow_nil _ _ _ _, fun i rv h => by simp at h⟩
theorem OutI.lower {w : World} {B B' : Nat} {ov : Value} {L : List (List Int)} (h : OutI w B ov L) (hB : B' ≤ B) : OutI w B' ov L := by
 obtain ⟨rs, h1, h2, h3⟩ := h
 exact ⟨rs, h1, own_lower h2 hB, fun i rv hi => own_lower (h3 i rv hi) hB⟩
theorem rowO_snoc (L : List (List Int)) (l : List Int) (i : Nat) : rowO (L ++ [l]) i = if i < L.length then rowO L i else if i = L.length then l else [] := by
 unfold rowO
 rw [List.getD_eq_getElem?_getD, List.getD_eq_getElem?_getD]
 by_cases h : i < L.length
 ·rw [if_pos h, List.getElem?_append_left h]
 ·rw [if_neg h, List.getElem?_append_right (by omega)]
  by_cases h2 : i = L.length
  ·rw [if_pos h2, h2, Nat.sub_self]; rfl
  ·rw [if_neg h2, List.getElem?_eq_none (by simp; omega)]; rfl
theorem OutI.more {w w6 : World} {B : Nat} {ov ov' rv : Value} {L : List (List Int)} {l : List Int} {rs : List Value} {o : Obj} (h1 : rs.length = L.length) (h2 : w.ownsRow B 44 1 ov L.length rs) (h3 : ∀ (i : Nat) x, rs[i]? = some x → w.ownsRow B 3 1 x (rowO L i).length ((rowO L i).flatMap encI))
  (hr : w.ownsRow B 3 1 rv l.length (l.flatMap encI)) (g2 : w6.ownsRow B 44 1 ov' (L.length + 1) (rs ++ [rv])) (g3 : (w.alloc o).grownBy w6 ov.ownBlock) : OutI w6 B ov' (L ++ [l]) := by
 have h2' := own_on h2 (alloc_ w o)
 refine ⟨rs ++ [rv], by simp [h1], by rw [List.length_append]; exact g2, fun i x hi => ?_⟩
 rw [rowO_snoc]
 by_cases h : i < L.length
 ·rw [if_pos h]
  rw [List.getElem?_append_left (by omega)] at hi
  exact own_apart (own_on (h3 i x hi) (alloc_ w o)) h2' (by decide) g3
 ·rw [if_neg h]
  rw [List.getElem?_append_right (by omega)] at hi
  have hi0 : i - rs.length = 0 := by have := (List.getElem?_eq_some_iff.1 hi).1; simpa using this
  rw [if_pos (by omega)]
  rw [hi0] at hi
  injection hi with hi
  subst hi
  exact own_apart (own_on hr (alloc_ w o)) h2' (by decide) g3
def GOwn (w : World) (L : List (List Int)) (e : Ending) (w' : World) : Prop := ∃ ov, e = .returned ov ∧ OutI w' w.heap.size ov L ∧ Below w.heap.size w w'
theorem flat_ints (l : List Int) : l.flatMap encI = By.ints l := by
 induction l with
 | nil => rfl
 | cons x l ih => rw [List.flatMap_cons, ih]; rfl
theorem OutI.gr {w : World} {B : Nat} {ov : Value} {L : List (List Int)} (h : OutI w B ov L) : ∃ A c, ov = .slice A L.length c ∧ By.Gr w w.heap.size (.slice A L.length c) L := by
 obtain ⟨rs, h1, h2, h3⟩ := h
 obtain ⟨A, c, rfl⟩ := own_form h2
 refine ⟨A, c, rfl, rs, SlV.of_own (n := L.length) h2, h1, fun i rv hi => ?_⟩
 have h9 := h3 i rv hi
 obtain ⟨A2, c2, rfl⟩ := own_form h9
 exact ⟨A2, c2, rfl, by have := SlV.of_own h9; rw [flat_ints] at this; exact this⟩
theorem map_next {α : Type} (f : Nat → α) (k : Nat) : (List.range (k + 1)).map f = (List.range k).map f ++ [f k] := by rw [List.range_succ, List.map_append]; rfl
set_option maxRecDepth 100000 in
set_option maxHeartbeats 4000000 in
theorem lists2_doc (w : World) (P : Pgm) (h : PgR w P) :
  Calls Tryz.prog 46 #[pgV P, .int .i64 2] w (GOwn w ((List.range P.fn).map (refersL P))) := by
 obtain ⟨iR, hiR, hzR0, hzR1, hzR2⟩ := info_split infoRow
 have hfw := h.few.1
 have HF := Hd (fun W (hb : Below w.heap.size w W) k (hk : k < P.fn) => show Calls Tryz.prog 85 #[pgV P, .int .i64 (k : Int)] W (IOwn W (refersL P k)) from refers_doc W P (h.on hb) k hk)
 clear h
 obtain ⟨L, hL⟩ : ∃ x, refersL P = x := ⟨_, rfl⟩
 rw [hL] at HF ⊢
 clear hL
 obtain ⟨fA, fn, fc, fs, dA, dn, dc, ds, en, cs⟩ := P
 unfold pgV at HF ⊢
 unfold IOwn at HF
 dsimp only at HF hfw ⊢
 obtain ⟨W0, hW0⟩ : ∃ W0, w.alloc (.cells #[.slice fA fn fc, .slice dA dn dc, .int .i64 en] 29) = W0 := ⟨_, rfl⟩
 have HB0 := Hd (show Below w.heap.size w W0 from by rw [← hW0]; exact alloc_ _ _)
 have hbk : Blk W0 w.heap.size 29 #[.slice fA fn fc, .slice dA dn dc, .int .i64 en] := by rw [← hW0]; exact Blk.new _ _ _
 have hz0 := hbk.lt
 have HX := Hd (fun W (hb : Below W0.heap.size W0 W) => show W.cell? ⟨w.heap.size, 0, none⟩ = some (.slice fA fn fc) ∧ W.cell? ⟨w.heap.size, 1, none⟩ = some (.slice dA dn dc) ∧ W.cell? ⟨w.heap.size, 2, none⟩ = some (.int .i64 en) from ⟨(hbk.below hb hbk.lt).cell 0, (hbk.below hb hbk.lt).cell 1, (hbk.below hb hbk.lt).cell 2⟩)
 obtain ⟨c0, c1, c2⟩ := HX.out W0 (Below.refl _ _)
 clear hbk
 unfold GOwn
 go_enter Tryz.func46, Tryz.ntmps46
 go_wp2_with fail
 clear hW0 c0 c1 c2
 go_loopw [5, 6] (fun v9 i9 wr => ∃ k : Nat, k ≤ fn ∧ i9 = .int .i64 (k : Int) ∧ Hid (OutI wr W0.heap.size v9 ((List.range k).map L)) ∧ Hid (Below W0.heap.size W0 wr)) (fun _ i9 _ => fn - (intOf i9).toNat)
 case atStart => exact ⟨0, Nat.zero_le _, rfl, Hd (OutI.nil _ _), Hd (Below.refl _ _)⟩
 case round =>
  obtain ⟨k, hk, rfl, HOU, HBE⟩ := hrel
  obtain ⟨c0, c1, c2⟩ := HX.out wr HBE.out
  have HBW := Hd (to_ HB0.out HBE.out)
  by_cases hlt : k < fn
  ·have hkI : (k : Int) < (fn : Int) := by omega
   obtain ⟨rs, h1, h2, h3⟩ := HOU.out
   have hlen : ((List.range k).map L).length = k := by simp
   rw [hlen] at h1 h2
   have H1 := Hd h1
   have H2 := Hd h2
   have H3 := Hd h3
   have HMN := Hd (map_next L k)
   have HLE := Hd hlen
   have HC := Hd (HF.out wr HBW.out k hlt)
   have HLT := Hd hlt
   clear h1 h2 h3 hlen
   go_wp2_with (go_at_call 85; refine HC.out.mono ?_; rintro e w1 ⟨v1, rfl, ho1, b1⟩; obtain ⟨rA, rc, rfl⟩ := own_form ho1; have HO1 := Hd (own_lower ho1 HBE.out.size); have HB1 := Hd b1; clear ho1 b1; go_wp2_with (at_builtin; go_loud (refine wpList_append_own _ rfl _ _ 41 rfl W0.heap.size 44 iR (.slice none 0 0) 1 24 Tryz.underlying41 hiR hzR0 hzR1 hzR2 rfl (by decide) _ k rs rfl (own_on H2.out (to_ HB1.out (alloc_ _ _))) ⟨w1.heap.size, 0, none⟩ 1 1 [.slice rA (L k).length rc] rfl rfl (one_new w1 _ 44) (by simp [Value.oneCell']) (by unfold maxLen; omega) (by omega) (by have := HBE.out.size; have := HB1.out.size; simp; omega) ?_; intro v' w' h2 h3 _; have G2 := Hd h2; have G3 := Hd h3; clear h2 h3)))
   go_roundw
   case rel =>
    refine ⟨k + 1, by have := HLT.out; omega, by go_num, Hd ?_, Hd ((to_ HBE.out (to_ HB1.out (alloc_ _ _))).grown G3.out (to_ HBE.out (to_ HB1.out (alloc_ _ _))).size fun r e => (H2.out.lt r e).1)⟩
    rw [HMN.out]
    exact OutI.more (by rw [HLE.out]; exact H1.out) (by rw [HLE.out]; exact own_on H2.out HB1.out) (fun i x hi => own_on (H3.out i x hi) HB1.out) HO1.out (by rw [HLE.out]; exact G2.out) G3.out
   case measure => have := HLT.out; simp [intOf]; omega
  ·obtain rfl : fn = k := by omega
   go_wp2_with fail
   go_ret
   exact ⟨_, rfl, HOU.out.lower HB0.out.size, HBW.out⟩
end Go.Proofs.YtdaimeaofgbfpaaGreat.Bo
