/-
 WALK of layer 25's document: Values.
-/
import Derived.Test.YtnenmgefgdpkdaaGreatZa
import Derived.Test.YtnenmgefgdpkdaaGreatQm
import Derived.Maps.AppendAt
namespace Go.Proofs.YtnenmgefgdpkdaaGreat.Bo
open Go.RowKit Go.Maps
open Mem Rf
set_option linter.unusedSimpArgs false
set_option linter.unusedVariables false
theorem encI_one : ∀ x, ∀ u ∈ encI x, u.oneCell' = true := fun x u hu => by
 obtain rfl : u = .int .i64 x := by simpa [encI] using hu
 rfl
/-- append of a whole list to a row of the call's own, as one step of a region, with where it lies. -/
theorem run_append_wd {α : Type} {enc : α → List Value} {P : Program} (w : World) (t ty e : TypeId) (i : TypeInfo) (z : Value) (k bytes base : Nat) (ht : P.underlying t = some (.slice e)) (hi : P.info? e = some i) (hz : i.zero = some z)
  (hsize : i.size = k) (hby : i.bytes = bytes) (hzs : z.cells.size = k) (hk0 : 0 < k) (hk : ∀ x, (enc x).length = k) (h1 : ∀ x, ∀ u ∈ enc x, u.oneCell' = true)
  (v : Value) (n0 : Nat) (xs : List Value) (hown : w.ownsRow base e k v n0 xs)
  (A : Option Addr) (m c : Nat) (l : List α) (hr : Wd k enc w w.heap.size A m c l)
  (h63 : n0 + m ≤ maxLen) (hbytes : (n0 + m) * bytes ≤ 140737488355328) (hbase : base ≤ w.heap.size) :
  ∃ v' w', (Builtin.append_ #[t, t] ty #[v, .slice A m c]).run P w = .ok v' w' ∧ w'.ownsRow base e k v' (n0 + m) (xs ++ l.flatMap enc) ∧ w.grownBy w' v.ownBlock ∧ (v'.ownBlock = v.ownBlock ∨ v'.ownBlock = some w.heap.size) := by
 cases A with
 | none =>
  have hc : c = 0 := hr.2.2.2.1 rfl
  have hm : m = 0 := by have := hr.2.1; omega
  have hl : l = [] := List.length_eq_zero_iff.1 (by rw [hr.1, hm])
  subst hc hm hl
  have := run_append_owned_none (P := P) (w := w) base t ty e i k ht hi v n0 xs hown
  exact ⟨v, w, this, by simpa using hown, ⟨rfl, rfl, rfl, Nat.le_refl _, fun _ _ _ => rfl⟩, .inl rfl⟩
 | some ad =>
  obtain ⟨v', w', g1, g2, g3, _, g5⟩ := run_append_own_at (P := P) w base t ty e i z k bytes ht hi hz hsize hby hzs hk0 v n0 xs hown ad m c (l.flatMap enc) (by rw [flat_len hk, hr.1]) (fun j u hu => by
   obtain ⟨y, e1, e2⟩ := flat_of hk0 hk l j u hu
   obtain ⟨ad', ea, _, hcell⟩ := hr.2.2.2.2 _ y e1
   injection ea with ea
   subst ea
   have := hcell _ u e2
   rw [add_twice] at this
   rw [show j / k * k + j % k = j from by rw [Nat.mul_comm]; exact Nat.div_add_mod j k] at this
   exact this) (fun u hu => by
   obtain ⟨y, _, hy⟩ := List.mem_flatMap.1 hu
   exact h1 y u hy) h63 hbytes hbase
  exact ⟨v', w', g1, g2, g3, g5⟩
theorem step_append_wd {α : Type} {enc : α → List Value} {P : Program} {ops : Array Oper} {o : Oper} {a : Act} {w : World} {K : Act → World → Prop} {Q : Exit → Act → World → Prop} {Z : Prop}
  (hgd : o.guard = none) (s x : Operand) (t : TypeId) (ho : o.op = .call { callee := .builtin .append, args := #[s, x], argTypes := #[t, t] })
  (base : Nat) (e : TypeId) (i : TypeInfo) (z : Value) (k bytes : Nat) (ht : P.underlying t = some (.slice e)) (hi : P.info? e = some i) (hz : i.zero = some z)
  (hsize : i.size = k) (hby : i.bytes = bytes) (hzs : z.cells.size = k) (hk0 : 0 < k) (hk : ∀ x, (enc x).length = k) (h1 : ∀ x, ∀ u ∈ enc x, u.oneCell' = true)
  (v : Value) (n0 : Nat) (xs : List Value) (hs : a.eval s = v) (hown : w.ownsRow base e k v n0 xs)
  (A : Option Addr) (m c : Nat) (l : List α) (hx : a.eval x = .slice A m c) (hr : Wd k enc w w.heap.size A m c l)
  (h63 : n0 + m ≤ maxLen) (hbytes : (n0 + m) * bytes ≤ 140737488355328) (hbase : base ≤ w.heap.size)
  (hK : ∀ v' w', w'.ownsRow base e k v' (n0 + m) (xs ++ l.flatMap enc) → w.grownBy w' v.ownBlock → (v'.ownBlock = v.ownBlock ∨ v'.ownBlock = some w.heap.size) → K (a.put o.dst v') w') :
  if Region.wanted o (yielded ops a.tmps) = true then Oper.wp P o a w K Q else Z := by
 have hw : Region.wanted o (yielded ops a.tmps) = true := by simp [Region.wanted, hgd]
 rw [if_pos hw]
 obtain ⟨v', w', hrun, h2, h3, h5⟩ := run_append_wd (P := P) w t o.type e i z k bytes base ht hi hz hsize hby hzs hk0 hk h1 v n0 xs hown A m c l hr h63 hbytes hbase
 unfold Oper.wp execOp
 simp only [ho, resolve, invoke, builtin, Sem.run_bind, Sem.run_pure, Result.andThen_ok, List.map_toArray, List.map_cons, List.map_nil, hs, hx, hrun]
 exact hK v' w' h2 h3 h5
theorem list_append_wd {α : Type} {enc : α → List Value} {P : Program} (w : World) {ops : Array Oper} {rest : List Oper} {o : Oper} {a : Act} {Q : Exit → Act → World → Prop} (hgd : o.guard = none) (s x : Operand) (t : TypeId)
  (ho : o.op = .call { callee := .builtin .append, args := #[s, x], argTypes := #[t, t] })
  (base : Nat) (e : TypeId) (i : TypeInfo) (z : Value) (k bytes : Nat) (ht : P.underlying t = some (.slice e)) (hi : P.info? e = some i) (hz : i.zero = some z)
  (hsize : i.size = k) (hby : i.bytes = bytes) (hzs : z.cells.size = k) (hk0 : 0 < k) (hk : ∀ x, (enc x).length = k) (h1 : ∀ x, ∀ u ∈ enc x, u.oneCell' = true)
  (v : Value) (n0 : Nat) (xs : List Value) (hs : a.eval s = v) (hown : w.ownsRow base e k v n0 xs)
  (A : Option Addr) (m c : Nat) (l : List α) (hx : a.eval x = .slice A m c) (hr : Wd k enc w w.heap.size A m c l)
  (h63 : n0 + m ≤ maxLen) (hbytes : (n0 + m) * bytes ≤ 140737488355328) (hbase : base ≤ w.heap.size)
  (h : ∀ v' w', w'.ownsRow base e k v' (n0 + m) (xs ++ l.flatMap enc) → w.grownBy w' v.ownBlock → (v'.ownBlock = v.ownBlock ∨ v'.ownBlock = some w.heap.size) → wpList P ops Q rest (a.put o.dst v') w') : wpList P ops Q (o :: rest) a w := by
 refine wpList_plain hgd fun K hK => ?_
 obtain ⟨v', w', hrun, h2, h3, h5⟩ := run_append_wd (P := P) w t o.type e i z k bytes base ht hi hz hsize hby hzs hk0 hk h1 v n0 xs hown A m c l hr h63 hbytes hbase
 unfold Oper.wp execOp
 simp only [ho, resolve, invoke, builtin, Sem.run_bind, Sem.run_pure, Result.andThen_ok, List.map_toArray, List.map_cons, List.map_nil, hs, hx, hrun]
 exact hK _ _ (h v' w' h2 h3 h5)
/-! ### what data have -/
def tabsL (P : Pgm) (i : Nat) : List Int := rise P.dn (gatV (gfAt P.fs i) (P.cs i) [4])
def pickL (ds : List Gd) (ts : List Int) : List Int := ts.flatMap fun k => (gdAt ds k.toNat).refs
def valuesL (P : Pgm) (i : Nat) : List Int := rise P.fn (gatV (gfAt P.fs i) (P.cs i) [2] ++ pickL P.ds (tabsL P i))
theorem rise_at {m k : Nat} {l : List Int} (h : k < (rise m l).length) : ∃ t : Nat, t < m ∧ (rise m l).getD k 0 = (t : Int) := by
 have hm : (rise m l).getD k 0 ∈ rise m l := by rw [List.getD_eq_getElem?_getD, List.getElem?_eq_getElem h]; exact List.getElem_mem _
 obtain ⟨t, ht, e⟩ := List.mem_map.1 hm
 exact ⟨t, List.mem_range.1 (List.mem_filter.1 ht).1, e.symm⟩
theorem pick_next {ds : List Gd} {ts : List Int} {k : Nat} {t : Nat} (h : k < ts.length) (ht : ts.getD k 0 = (t : Int)) : pickL ds (ts.take (k + 1)) = pickL ds (ts.take k) ++ (gdAt ds t).refs := by
 unfold pickL
 rw [take_next (d := 0) h, List.flatMap_append, ht]
 simp
theorem pick_len {ds : List Gd} {m : Nat} (hd : ∀ t, t < m → (gdAt ds t).refs.length ≤ 80) {l : List Int} : ∀ k, k ≤ (rise m l).length → (pickL ds ((rise m l).take k)).length ≤ 80 * k
 | 0, _ => by simp [pickL]
 | k + 1, h => by
  obtain ⟨t, ht, e⟩ := rise_at (m := m) (l := l) (k := k) (by omega)
  rw [pick_next (by omega) e, List.length_append]
  have := pick_len hd (l := l) k (by omega)
  have := hd t ht
  omega
set_option maxRecDepth 100000 in
set_option maxHeartbeats 4000000 in
theorem values_doc (w : World) (P : Pgm) (h : PgR w P) (i : Nat) (hi : i < P.fn) :
  Calls Tryz.prog 55 #[pgV P, .int .i64 (i : Int)] w (IOwn w (valuesL P i)) := by
 obtain ⟨iN, hiN, hzN0, hzN1, hzN2⟩ := info_split infoInt
 have hfw := h.few
 have HRF := Lib.hid (fun W (hb : Below w.heap.size w W) An m cm ns hns hm => refs_any W (gfAt P.fs i) (P.cs i) (h.on hb |>.fns i hi) An m cm ns hns hm)
 have HGF := Lib.hid (fun W (hb : Below w.heap.size w W) => gf_at (h.on hb).fr hi)
 have HGL := Lib.hid (show ∀ ns, (gatV (gfAt P.fs i) (P.cs i) ns).length ≤ 1000000 from fun ns => by
  have h9 := (h.fns i hi).few
  have h8 := gatL_len (P.cs i) (gfAt P.fs i).refs (okN ns) (min (gfAt P.fs i).F.code.2.1 (gfAt P.fs i).R.2.1)
  unfold gatV
  omega)
 have HDAT := Lib.hid (fun W (hb : Below w.heap.size w W) t (ht : t < P.dn) => gd_at (h.on hb).dr ht)
 have HDRF := Lib.hid (fun W (hb : Below w.heap.size w W) t (ht : t < P.dn) => ((h.on hb).dats t ht).refs)
 have HPL := Lib.hid (fun l k hk => pick_len (ds := P.ds) (m := P.dn) (fun t ht => by have := (h.dats t ht).few; have := (h.dats t ht).refs.1; omega) (l := l) k hk)
 have HGL2 := Lib.hid (show ∀ ns, (gatV (gfAt P.fs i) (P.cs i) ns).length ≤ 80 from fun ns => by
  have h9 := (h.fns i hi).few
  have h8 := gatL_len (P.cs i) (gfAt P.fs i).refs (okN ns) (min (gfAt P.fs i).F.code.2.1 (gfAt P.fs i).R.2.1)
  unfold gatV
  omega)
 have hiI : (i : Int) < (P.fn : Int) := by omega
 have hi0 : (0 : Int) ≤ (i : Int) := by omega
 unfold valuesL tabsL
 clear h
 obtain ⟨fA, fn, fc, fs, dA, dn, dc, ds, en, cs⟩ := P
 unfold pgV
 dsimp only at HRF HGF HGL hfw hi HDAT HDRF HPL HGL2 hiI ⊢
 obtain ⟨g, hg⟩ : ∃ g, gfAt fs i = g := ⟨_, rfl⟩
 rw [hg] at HRF HGF HGL HGL2 ⊢
 have HG := Lib.hid hg
 clear hg
 obtain ⟨ad, rfl, _, f0, hfc⟩ := HGF.out w (Below.refl _ _)
 have hz := World.block_lt_of_cell? w _ f0
 obtain ⟨c, hcs⟩ : ∃ c, cs i = c := ⟨_, rfl⟩
 rw [hcs] at HRF HGL HGL2 ⊢
 have HCS := Lib.hid hcs
 clear hcs
 obtain ⟨G2, hG2⟩ : ∃ x, gatV g c [2] = x := ⟨_, rfl⟩
 obtain ⟨G4, hG4⟩ : ∃ x, gatV g c [4] = x := ⟨_, rfl⟩
 have HL2 := Lib.hid (show G2.length ≤ 80 from by rw [← hG2]; exact HGL2.out _)
 have HL4 := Lib.hid (show G4.length ≤ 80 from by rw [← hG4]; exact HGL2.out _)
 rw [hG2, hG4]
 have HRF2 := Lib.hid (fun W hw An cm hns => (HRF.out W hw An 1 cm [2] hns (by decide)).mono fun e w' hh => by rw [hG2] at hh; exact (hh : IOwn W G2 e w'))
 have HRF4 := Lib.hid (fun W hw An cm hns => (HRF.out W hw An 1 cm [4] hns (by decide)).mono fun e w' hh => by rw [hG4] at hh; exact (hh : IOwn W G4 e w'))
 clear HRF HGL HGL2 hG2 hG4
 obtain ⟨file, item, nm, ⟨cl, ⟨kA, kn, kc⟩, pd, no, fr, tt, ⟨lA, ln, lc⟩, ⟨cA, cn, cc⟩, ⟨rA, rn, rc⟩⟩, ⟨qA, qn, qc⟩, refs⟩ := g
 have f1 := hfc 0 _ rfl
 have f2 := hfc 1 _ rfl
 have f3 := hfc 2 _ rfl
 have f4 := hfc 3 _ rfl
 have f5 := hfc 4 _ rfl
 have f6 := hfc 5 _ rfl
 have f7 := hfc 6 _ rfl
 have f8 := hfc 7 _ rfl
 have f9 := hfc 8 _ rfl
 have f10 := hfc 9 _ rfl
 have f11 := hfc 10 _ rfl
 have f12 := hfc 11 _ rfl
 unfold encGf slV at HRF2 HRF4
 unfold slV at f4 f9 f10 f11 f12
 dsimp only at HRF2 HRF4 f0 f1 f2 f3 f4 f5 f6 f7 f8 f9 f10 f11 f12
 clear hfc
 obtain ⟨W0, hW0⟩ : ∃ W0, w.alloc (.cells #[.slice (some ad) fn fc, .slice dA dn dc, .int .i64 en] 29) = W0 := ⟨_, rfl⟩
 have HB0 := Lib.hid (show Below w.heap.size w W0 from by rw [← hW0]; exact alloc_ _ _)
 have hbk : Blk W0 w.heap.size 29 #[.slice (some ad) fn fc, .slice dA dn dc, .int .i64 en] := by rw [← hW0]; exact Blk.new _ _ _
 have hz0 := hbk.lt
 have HX := Lib.hid (fun W (hb : Below W0.heap.size W0 W) => show W.cell? ⟨w.heap.size, 0, none⟩ = some (.slice (some ad) fn fc) ∧ W.cell? ⟨w.heap.size, 1, none⟩ = some (.slice dA dn dc) ∧ W.cell? ⟨w.heap.size, 2, none⟩ = some (.int .i64 en) from ⟨(hbk.below hb hbk.lt).cell 0, (hbk.below hb hbk.lt).cell 1, (hbk.below hb hbk.lt).cell 2⟩)
 obtain ⟨c0, c1, c2⟩ := HX.out W0 (Below.refl _ _)
 replace f0 := cell_on f0 HB0.out
 replace f1 := cell_on f1 HB0.out
 replace f2 := cell_on f2 HB0.out
 replace f3 := cell_on f3 HB0.out
 replace f4 := cell_on f4 HB0.out
 replace f5 := cell_on f5 HB0.out
 replace f6 := cell_on f6 HB0.out
 replace f7 := cell_on f7 HB0.out
 replace f8 := cell_on f8 HB0.out
 replace f9 := cell_on f9 HB0.out
 replace f10 := cell_on f10 HB0.out
 replace f11 := cell_on f11 HB0.out
 replace f12 := cell_on f12 HB0.out
 have hzz := World.block_lt_of_cell? W0 _ f0
 clear hbk
 unfold IOwn
 go_enter Tryz.func55, Tryz.ntmps55
 go_wp2_with (go_at_call 102; refine (HRF2.out _ (to_ HB0.out (alloc_ _ _)) _ _ (il_new W0 [2])).mono ?_; rintro e w1 ⟨v5, rfl, ho5, b5⟩; obtain ⟨pA0, pc0, rfl, -⟩ := own_il ho5; have HO5 := Lib.hid ho5; have hb1 := to_ (alloc_ _ _) b5; have HB1 := Lib.hid hb1; have HZ1 := Lib.hid (alloc_ W0 (.cells #[.int .i64 2] 3)).size; replace c0 := cell_on c0 hb1; replace c1 := cell_on c1 hb1; replace c2 := cell_on c2 hb1; replace f0 := cell_on f0 hb1; replace f1 := cell_on f1 hb1; replace f2 := cell_on f2 hb1; replace f3 := cell_on f3 hb1; replace f4 := cell_on f4 hb1; replace f5 := cell_on f5 hb1; replace f6 := cell_on f6 hb1; replace f7 := cell_on f7 hb1; replace f8 := cell_on f8 hb1; replace f9 := cell_on f9 hb1; replace f10 := cell_on f10 hb1; replace f11 := cell_on f11 hb1; replace f12 := cell_on f12 hb1; clear ho5 b5 hb1 hzz)
 clear hW0
 have HD := Lib.hid (show Below w.heap.size w w1.drew from (to_ HB0.out HB1.out).drew)
 have HRF := HRF4
 have HGL := Lib.hid (show G4.length ≤ 1000000 from by have := HL4.out; omega)
 refine wp_region_noPanic ?_
 refine wp_region_held_drew (S := fun W => W.cell? ⟨w.heap.size, 0, none⟩ = some (.slice (some ad) fn fc) ∧ W.cell? ⟨w.heap.size, 1, none⟩ = some (.slice dA dn dc) ∧ W.cell? ⟨w.heap.size, 2, none⟩ = some (.int .i64 en) ∧ W.cell? (ad.add (i * 13)) = some (.int .i64 (file : Int)) ∧ W.cell? ⟨(ad.add (i * 13)).block, (ad.add (i * 13)).off + 1, none⟩ = some (.int .i64 (item : Int)) ∧ W.cell? ⟨(ad.add (i * 13)).block, (ad.add (i * 13)).off + 2, none⟩ = some (.string nm) ∧ W.cell? ⟨(ad.add (i * 13)).block, (ad.add (i * 13)).off + 3, none⟩ = some (.int .i64 cl) ∧ W.cell? ⟨(ad.add (i * 13)).block, (ad.add (i * 13)).off + 4, none⟩ = some (.slice kA kn kc) ∧ W.cell? ⟨(ad.add (i * 13)).block, (ad.add (i * 13)).off + 5, none⟩ = some (.int .i64 pd) ∧ W.cell? ⟨(ad.add (i * 13)).block, (ad.add (i * 13)).off + 6, none⟩ = some (.bool no) ∧ W.cell? ⟨(ad.add (i * 13)).block, (ad.add (i * 13)).off + 7, none⟩ = some (.int .i64 fr) ∧ W.cell? ⟨(ad.add (i * 13)).block, (ad.add (i * 13)).off + 8, none⟩ = some (.int .i64 tt) ∧ W.cell? ⟨(ad.add (i * 13)).block, (ad.add (i * 13)).off + 9, none⟩ = some (.slice lA ln lc) ∧ W.cell? ⟨(ad.add (i * 13)).block, (ad.add (i * 13)).off + 10, none⟩ = some (.slice cA cn cc) ∧ W.cell? ⟨(ad.add (i * 13)).block, (ad.add (i * 13)).off + 11, none⟩ = some (.slice rA rn rc) ∧ W.cell? ⟨(ad.add (i * 13)).block, (ad.add (i * 13)).off + 12, none⟩ = some (.slice qA qn qc)) (by kernel_rfl) (⟨c0, c1, c2, f0, f1, f2, f3, f4, f5, f6, f7, f8, f9, f10, f11, f12⟩) (fun hHeld => ?_)
 refine tkZ 0 rfl hHeld ?_
 try simp only [Act.put, nmZ]
 refine tkZ 1 rfl hHeld ?_
 try simp only [Act.put, nmZ]
 refine tkZ 2 rfl hHeld ?_
 try simp only [Act.put, nmZ]
 refine tkZ 3 rfl hHeld ?_
 try simp only [Act.put, nmZ]
 refine tkZ 4 rfl hHeld ?_
 try simp only [Act.put, nmZ]
 refine tkZ 7 rfl hHeld ?_
 try simp only [Act.put, nmZ]
 refine tkZ 8 rfl hHeld ?_
 try simp only [Act.put, nmZ]
 refine tkZ 9 rfl hHeld ?_
 try simp only [Act.put, nmZ]
 refine wpAnyH_ready (rs := [5]) (by kernel_rfl) (by simp) ?_
 refine AllReadyH.cons rfl (fun K hK => ?_) AllReadyH.nil
 go_simp
 have HA := Lib.hid (alloc_ w1.drew (.cells #[.int .i64 4] 3))
 refine hK.out _ _ (⟨cell_on hHeld.1 HA.out, cell_on hHeld.2.1 HA.out, cell_on hHeld.2.2.1 HA.out, cell_on hHeld.2.2.2.1 HA.out, cell_on hHeld.2.2.2.2.1 HA.out, cell_on hHeld.2.2.2.2.2.1 HA.out, cell_on hHeld.2.2.2.2.2.2.1 HA.out, cell_on hHeld.2.2.2.2.2.2.2.1 HA.out, cell_on hHeld.2.2.2.2.2.2.2.2.1 HA.out, cell_on hHeld.2.2.2.2.2.2.2.2.2.1 HA.out, cell_on hHeld.2.2.2.2.2.2.2.2.2.2.1 HA.out, cell_on hHeld.2.2.2.2.2.2.2.2.2.2.2.1 HA.out, cell_on hHeld.2.2.2.2.2.2.2.2.2.2.2.2.1 HA.out, cell_on hHeld.2.2.2.2.2.2.2.2.2.2.2.2.2.1 HA.out, cell_on hHeld.2.2.2.2.2.2.2.2.2.2.2.2.2.2.1 HA.out, cell_on hHeld.2.2.2.2.2.2.2.2.2.2.2.2.2.2.2 HA.out⟩) ?_
 clear hK K hHeld
 intro hHeld
 try simp only [Act.put, nmZ]
 refine wpAnyH_ready (rs := [6]) (by kernel_rfl) (by simp) ?_
 refine AllReadyH.cons rfl (fun K hK => ?_) AllReadyH.nil
 go_simp
 refine (HRF.out _ (to_ HD.out HA.out) _ _ (il_new w1.drew [4])).mono ?_
 rintro e w3 ⟨v3, rfl, ho3, b3⟩
 obtain ⟨gA, gc, rfl, hil⟩ := own_il ho3
 have HI3 := Lib.hid hil
 have HB3 := Lib.hid (to_ (to_ HD.out HA.out) b3)
 have HS3 := Lib.hid b3
 clear ho3 hil b3
 try go_wp2_with fail
 refine hK.out _ _ (⟨cell_on hHeld.1 HS3.out, cell_on hHeld.2.1 HS3.out, cell_on hHeld.2.2.1 HS3.out, cell_on hHeld.2.2.2.1 HS3.out, cell_on hHeld.2.2.2.2.1 HS3.out, cell_on hHeld.2.2.2.2.2.1 HS3.out, cell_on hHeld.2.2.2.2.2.2.1 HS3.out, cell_on hHeld.2.2.2.2.2.2.2.1 HS3.out, cell_on hHeld.2.2.2.2.2.2.2.2.1 HS3.out, cell_on hHeld.2.2.2.2.2.2.2.2.2.1 HS3.out, cell_on hHeld.2.2.2.2.2.2.2.2.2.2.1 HS3.out, cell_on hHeld.2.2.2.2.2.2.2.2.2.2.2.1 HS3.out, cell_on hHeld.2.2.2.2.2.2.2.2.2.2.2.2.1 HS3.out, cell_on hHeld.2.2.2.2.2.2.2.2.2.2.2.2.2.1 HS3.out, cell_on hHeld.2.2.2.2.2.2.2.2.2.2.2.2.2.2.1 HS3.out, cell_on hHeld.2.2.2.2.2.2.2.2.2.2.2.2.2.2.2 HS3.out⟩) ?_
 clear hK K hHeld
 intro hHeld
 try simp only [Act.put, nmZ]
 refine wpAnyH_ready (rs := [10]) (by kernel_rfl) (by simp) ?_
 refine AllReadyH.cons rfl (fun K hK => ?_) AllReadyH.nil
 go_simp
 refine (rising_any w3 _ _ _ _ dn HI3.out HGL.out (by omega)).mono ?_
 rintro e w4 ⟨v4, rfl, ho4, b4⟩
 have HO4 := Lib.hid ho4
 have HB4 := Lib.hid (to_ HB3.out b4)
 have HS4 := Lib.hid b4
 have HZ4 := Lib.hid (show w.heap.size ≤ w3.heap.size from HB3.out.size)
 clear ho4 b4
 try go_wp2_with fail
 refine hK.out _ _ (⟨cell_on hHeld.1 HS4.out, cell_on hHeld.2.1 HS4.out, cell_on hHeld.2.2.1 HS4.out, cell_on hHeld.2.2.2.1 HS4.out, cell_on hHeld.2.2.2.2.1 HS4.out, cell_on hHeld.2.2.2.2.2.1 HS4.out, cell_on hHeld.2.2.2.2.2.2.1 HS4.out, cell_on hHeld.2.2.2.2.2.2.2.1 HS4.out, cell_on hHeld.2.2.2.2.2.2.2.2.1 HS4.out, cell_on hHeld.2.2.2.2.2.2.2.2.2.1 HS4.out, cell_on hHeld.2.2.2.2.2.2.2.2.2.2.1 HS4.out, cell_on hHeld.2.2.2.2.2.2.2.2.2.2.2.1 HS4.out, cell_on hHeld.2.2.2.2.2.2.2.2.2.2.2.2.1 HS4.out, cell_on hHeld.2.2.2.2.2.2.2.2.2.2.2.2.2.1 HS4.out, cell_on hHeld.2.2.2.2.2.2.2.2.2.2.2.2.2.2.1 HS4.out, cell_on hHeld.2.2.2.2.2.2.2.2.2.2.2.2.2.2.2 HS4.out⟩) ?_
 clear hK K hHeld
 intro hHeld
 try simp only [Act.put, nmZ]
 refine tkZ 11 rfl hHeld ?_
 try simp only [Act.put, nmZ]
 refine wpAnyH_done (by kernel_rfl) ?_ _
 refine NoPanic.normal ?_
 clear hHeld c0 c1 c2 f0 f1 f2 f3 f4 f5 f6 f7 f8 f9 f10 f11 f12
 go_wp2_with fail
 obtain ⟨tA, tc, rfl, -⟩ := own_il HO4.out
 have HB14 := Lib.hid (to_ (to_ (to_ (Below.refl _ w1).drew HA.out) HS3.out) HS4.out)
 have HSZ := Lib.hid (show w1.heap.size ≤ w3.heap.size from Nat.le_trans (to_ (Below.refl _ w1).drew HA.out).size HS3.out.size)
 have HV0 := Lib.hid (show w4.ownsRow W0.heap.size 3 1 (.slice pA0 G2.length pc0) G2.length (G2.flatMap encI) from own_lower (own_on HO5.out HB14.out) HZ1.out)
 have HAP0 := Lib.hid (show (Value.slice pA0 G2.length pc0).ownBlock = none ∨ (Value.slice pA0 G2.length pc0).ownBlock ≠ (Value.slice tA (rise dn G4).length tc).ownBlock from by
  cases pA0 with
  | none => exact .inl rfl
  | some p0 =>
   refine .inr fun e => ?_
   have h1 := (HO5.out.lt p0.block rfl).2
   have h2 := (HO4.out.lt p0.block e.symm).1
   have := HSZ.out
   omega)
 have HB04 := Lib.hid (to_ HB1.out HB14.out)
 obtain ⟨Ts, hTs⟩ : ∃ x, rise dn G4 = x := ⟨_, rfl⟩
 have HTE := Lib.hid hTs
 have HTAT := Lib.hid (fun k (hk : k < Ts.length) => show ∃ t : Nat, t < dn ∧ Ts.getD k 0 = (t : Int) from by subst hTs; exact rise_at hk)
 have HTPL := Lib.hid (fun k (hk : k ≤ Ts.length) => show (pickL ds (Ts.take k)).length ≤ 80 * k from by subst hTs; exact HPL.out G4 k hk)
 have HTL := Lib.hid (show Ts.length ≤ 24 from by rw [← hTs]; exact Nat.le_trans (rise_len _ _) hfw.2)
 rw [hTs] at HO4 HAP0 ⊢
 clear hTs HA HS3 HS4 HO5 HI3
 obtain ⟨T, hT⟩ : ∃ x, Ts.length = x := ⟨_, rfl⟩
 have HT9 := Lib.hid hT
 rw [hT] at HO4 HAP0 HTAT HTPL HTL ⊢
 have HTAL := Lib.hid (show Ts.take T = Ts from by rw [← hT, List.take_length])
 have hT24 : T ≤ 24 := HTL.out
 clear hT
 go_wp2_with fail
 go_loopw [5, 7] (fun v9 i9 wr => ∃ k : Nat, k ≤ T ∧ i9 = .int .i64 (k : Int) ∧ Hid (wr.ownsRow W0.heap.size 3 1 v9 (G2 ++ pickL ds (Ts.take k)).length ((G2 ++ pickL ds (Ts.take k)).flatMap encI)) ∧ Hid (wr.ownsRow w3.heap.size 3 1 (.slice tA T tc) T (Ts.flatMap encI)) ∧ Hid (v9.ownBlock = none ∨ v9.ownBlock ≠ (Value.slice tA T tc).ownBlock) ∧ Hid (Below W0.heap.size W0 wr)) (fun _ i9 _ => T - (intOf i9).toNat)
 case atStart => exact ⟨0, Nat.zero_le _, rfl, Lib.hid (by rw [show pickL ds (Ts.take 0) = [] from rfl, List.append_nil]; exact HV0.out), HO4, HAP0, HB04⟩
 case round =>
  obtain ⟨k, hk, rfl, HV5, HTR, HAP, HBE⟩ := hrel
  obtain ⟨c0, c1, c2⟩ := HX.out wr HBE.out
  have HBW := Lib.hid (to_ HB0.out HBE.out)
  obtain ⟨X5, hX5⟩ : ∃ x, G2 ++ pickL ds (Ts.take k) = x := ⟨_, rfl⟩
  have HX5 := Lib.hid hX5
  obtain ⟨q5, hq5⟩ : ∃ x, X5.length = x := ⟨_, rfl⟩
  have HXL := Lib.hid hq5
  have HQ5 := Lib.hid (show q5 ≤ 80 + 80 * k from by
   have h1 := HTPL.out k hk
   have h2 := HL2.out
   rw [← hq5, ← hX5, List.length_append]; omega)
  rw [hX5] at HV5
  rw [hq5] at HV5
  clear hX5 hq5
  obtain ⟨pA, pc, rfl⟩ := own_form HV5.out
  by_cases hlt : k < T
  ·have hkI : (k : Int) < (T : Int) := by omega
   have hk0 : (0 : Int) ≤ (k : Int) := by omega
   obtain ⟨t, ht, het⟩ := HTAT.out k hlt
   have htI : (t : Int) < (dn : Int) := by omega
   have ht0 : (0 : Int) ≤ (t : Int) := by omega
   have HTIL := Lib.hid (show IL wr tA T tc Ts from by
    obtain ⟨A', c', e, hh⟩ := wd_own encI_len HT9.out HTR.out
    injection e with e1 e2 e3
    subst e1 e3; exact hh)
   obtain ⟨ta, rfl, htb, z0⟩ := HTIL.out.at_ hlt
   rw [het] at z0
   obtain ⟨bd, rfl, hbb, -, hdc⟩ := HDAT.out wr HBW.out t ht
   obtain ⟨bd2, e2, hbb2, -⟩ := HDAT.out w (Below.refl _ _) t ht
   obtain rfl := Option.some.inj e2
   have s0 := hdc 5 _ rfl
   have HDR := Lib.hid (HDRF.out wr HBW.out t ht)
   have HPN := Lib.hid (pick_next (ds := ds) (ts := Ts) (k := k) (t := t) (by rw [HT9.out]; exact hlt) het)
   have HPN2 := Lib.hid (HTPL.out (k + 1) (by omega))
   clear hdc e2 het
   obtain ⟨⟨dfile, ditem, dnm, dD, ⟨sA, sn, sc⟩, drefs⟩, hd⟩ : ∃ d, gdAt ds t = d := ⟨_, rfl⟩
   rw [hd] at s0 HDR HPN
   unfold slV at s0
   dsimp only at s0 HDR HPN
   clear hd
   have HSN := Lib.hid (show sn ≤ 80 * (k + 1) from by
    have h1 := HPN2.out
    rw [HPN.out, List.length_append] at h1
    have h2 := HDR.out.1
    omega)
   have HN0 := Lib.hid (show (Value.slice pA q5 pc).ownBlock ≠ some w.heap.size from own_ne HV5.out hz0)
   have HND := Lib.hid (show (Value.slice pA q5 pc).ownBlock ≠ some bd.block from own_ne HV5.out (by omega))
   have HNT := Lib.hid (show (Value.slice pA q5 pc).ownBlock ≠ some ta.block from by
    rcases HAP.out with h | h
    ·rw [h]; simp
    ·exact h)
   have HB5z := Lib.hid HBE.out.size
   have HLT := Lib.hid hlt
   clear hbb hbb2 htb
   go_wp2_with fail
   refine wp_region_noPanic ?_
   refine wp_region_held_drew (S := fun W => W.cell? (⟨w.heap.size, 0, none⟩) = some (.slice (some ad) fn fc) ∧ W.cell? (⟨w.heap.size, 1, none⟩) = some (.slice (some bd) dn dc) ∧ W.cell? (⟨w.heap.size, 2, none⟩) = some (.int .i64 en) ∧ W.cell? (ta.add k) = some (.int .i64 (t : Int)) ∧ W.cell? (⟨(bd.add (t * 7)).block, (bd.add (t * 7)).off + 6, none⟩) = some (.slice sA sn sc)) (by kernel_rfl) (⟨c0, c1, c2, z0, s0⟩) (fun hHeld => ?_)
   refine tkZ 0 rfl hHeld ?_
   try simp only [Act.put, nmZ]
   refine tkZ 1 rfl hHeld ?_
   try simp only [Act.put, nmZ]
   refine tkZ 2 rfl hHeld ?_
   try simp only [Act.put, nmZ]
   refine tkZ 3 rfl hHeld ?_
   try simp only [Act.put, nmZ]
   refine tkZ 4 rfl hHeld ?_
   try simp only [Act.put, nmZ]
   refine tkZ 5 rfl hHeld ?_
   try simp only [Act.put, nmZ]
   refine tkZ 6 rfl hHeld ?_
   try simp only [Act.put, nmZ]
   refine tkZ 7 rfl hHeld ?_
   try simp only [Act.put, nmZ]
   refine tkZ 8 rfl hHeld ?_
   try simp only [Act.put, nmZ]
   refine tkZ 9 rfl hHeld ?_
   try simp only [Act.put, nmZ]
   refine wpAnyH_ready (rs := [10]) (by kernel_rfl) (by simp) ?_
   refine AllReadyH.cons rfl (fun K hK => ?_) AllReadyH.nil
   refine step_append_wd rfl _ _ 42 rfl W0.heap.size 3 iN (.int .i64 0) 1 8 Tryz.underlying42 hiN hzN0 hzN1 hzN2 rfl (by decide) encI_len encI_one _ q5 (X5.flatMap encI) rfl (show wr.drew.ownsRow W0.heap.size 3 1 (.slice pA q5 pc) q5 (X5.flatMap encI) from HV5.out) sA sn sc drefs rfl (show Wd 1 encI wr.drew wr.drew.heap.size sA sn sc drefs from HDR.out) (by unfold maxLen; have := HQ5.out; have := HSN.out; omega) (by have := HQ5.out; have := HSN.out; omega) (show W0.heap.size ≤ wr.drew.heap.size from HB5z.out) ?_
   intro v6 w6 h2 h3 h5
   have H2 := Lib.hid h2
   have H3 := Lib.hid h3
   have H5 := Lib.hid h5
   have HSS := Lib.hid (And.intro (cell_step hHeld.1 h3 HN0.out) (And.intro (cell_step hHeld.2.1 h3 HN0.out) (And.intro (cell_step hHeld.2.2.1 h3 HN0.out) (And.intro (cell_step hHeld.2.2.2.1 h3 (by show (Value.slice pA q5 pc).ownBlock ≠ some (ta.add k).block; rw [add_block]; exact HNT.out)) (cell_step hHeld.2.2.2.2 h3 (by show (Value.slice pA q5 pc).ownBlock ≠ some (bd.add (t * 7)).block; rw [add_block]; exact HND.out))))))
   clear h2 h3 h5
   refine hK.out _ _ (HSS.out) ?_
   clear hK K hHeld
   intro hHeld
   try simp only [Act.put, nmZ]
   refine tkZ 11 rfl hHeld ?_
   try simp only [Act.put, nmZ]
   refine wpAnyH_done (by kernel_rfl) ?_ _
   refine NoPanic.normal ?_
   go_wp2_with fail
   clear c0 c1 c2 z0 s0 hHeld
   go_roundw
   case rel =>
    have hX9 : G2 ++ pickL ds (Ts.take (k + 1)) = X5 ++ drefs := by rw [HPN.out, ← List.append_assoc, HX5.out]
    have hsn : drefs.length = sn := HDR.out.1
    have hkp : w6.ownsRow w3.heap.size 3 1 (.slice (some ta) T tc) T (Ts.flatMap encI) := (show wr.drew.ownsRow w3.heap.size 3 1 (.slice (some ta) T tc) T (Ts.flatMap encI) from HTR.out).kept H3.out (.inr fun e => HNT.out e.symm)
    refine ⟨k + 1, by have := HLT.out; omega, by go_num, Lib.hid ?_, Lib.hid hkp, Lib.hid ?_, Lib.hid ?_⟩
    ·rw [hX9, List.length_append, HXL.out, hsn, flatI]; exact H2.out
    ·rcases H5.out with h | h
     ·rw [h]; exact HAP.out
     ·refine .inr fun e => ?_
      rw [h] at e
      have h1 := (HTR.out.lt ta.block rfl).2
      have h2 : some wr.drew.heap.size = some ta.block := e
      injection h2 with h2
      have h3 : wr.drew.heap.size = wr.heap.size := rfl
      omega
    ·exact HBE.out.drew.grown H3.out HBE.out.size fun r e => (HV5.out.lt r e).1
   case measure => have := HLT.out; simp [intOf]; omega
  ·obtain rfl : T = k := by omega
   have HXX := Lib.hid (show G2 ++ pickL ds Ts = X5 from by rw [← HX5.out, HTAL.out])
   have HIL5 := Lib.hid (show IL wr pA q5 pc X5 from by
    obtain ⟨A', c', e, hh⟩ := wd_own encI_len HXL.out HV5.out
    injection e with e1 e2 e3
    subst e1 e3; exact hh)
   have HRI := Lib.hid (rising_any wr pA q5 pc X5 fn HIL5.out (by have := HQ5.out; omega) (by omega))
   unfold IOwn at HRI
   go_wp2_with (go_at_call 101; refine HRI.out.mono ?_; rintro e w9 ⟨v9, rfl, ho9, b9⟩; have HO9 := Lib.hid ho9; have HB9 := Lib.hid b9; clear ho9 b9)
   go_ret
   exact ⟨_, rfl, (by have h := own_lower HO9.out HBW.out.size; rw [← HXX.out, ← HTE.out] at h; exact h), to_ HBW.out HB9.out⟩
end Go.Proofs.YtnenmgefgdpkdaaGreat.Bo
