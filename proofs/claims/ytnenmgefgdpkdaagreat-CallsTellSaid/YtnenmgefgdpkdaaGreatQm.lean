/-
 WALKS of layer 25's document: Direct, Datas.
-/
import Derived.Test.YtnenmgefgdpkdaaGreatZa
import Derived.Test.YtnenmgefgdpkdaaGreatQl
namespace Go.Proofs.YtnenmgefgdpkdaaGreat.Bo
open Go.RowKit Go.Maps
open Mem Rf
set_option linter.unusedSimpArgs false
set_option linter.unusedVariables false
/-- A literal row of numbers. -/
theorem il_new (W : World) (l : List Int) (hm : l.length ≤ maxLen := by decide) : IL (W.alloc (.cells (l.map (Value.int .i64)).toArray 3)) (some ⟨W.heap.size, 0, none⟩) l.length l.length l := by
 ·refine ⟨rfl, Nat.le_refl _, hm, (fun e => by cases e), fun i x hi => ⟨_, rfl, by simp, fun j u hu => ?_⟩⟩
  obtain rfl : j = 0 := by have := (List.getElem?_eq_some_iff.1 hu).1; simpa [encI] using this
  obtain rfl : u = .int .i64 x := by simpa [encI] using hu.symm
  have := cells_new W 3 (l.map (Value.int .i64)) i (.int .i64 x) (by rw [List.getElem?_map, hi]; rfl)
  rw [Nat.mul_one, show ((⟨W.heap.size, 0, none⟩ : Addr).add i).add 0 = (⟨W.heap.size, 0, none⟩ : Addr).add i from by unfold Addr.add; simp]
  exact this
set_option maxRecDepth 100000 in
set_option maxHeartbeats 8000000 in
theorem direct_doc (w : World) (P : Pgm) (h : PgR w P) (i : Nat) (hi : i < P.fn) :
  Calls Tryz.prog 54 #[pgV P, .int .i64 (i : Int)] w (IOwn w (rise P.fn (gatV (gfAt P.fs i) (P.cs i) [1, 5]))) := by
 have hfw := h.few
 have HRF := Lib.hid (fun W (hb : Below w.heap.size w W) An m cm ns hns hm => refs_any W (gfAt P.fs i) (P.cs i) (h.on hb |>.fns i hi) An m cm ns hns hm)
 have HGF := Lib.hid (fun W (hb : Below w.heap.size w W) => gf_at (h.on hb).fr hi)
 have HGL := Lib.hid (show ∀ ns, (gatV (gfAt P.fs i) (P.cs i) ns).length ≤ 1000000 from fun ns => by
  have h9 := (h.fns i hi).few
  have h8 := gatL_len (P.cs i) (gfAt P.fs i).refs (okN ns) (min (gfAt P.fs i).F.code.2.1 (gfAt P.fs i).R.2.1)
  unfold gatV
  omega)
 have hiI : (i : Int) < (P.fn : Int) := by omega
 have hi0 : (0 : Int) ≤ (i : Int) := by omega
 clear h
 obtain ⟨fA, fn, fc, fs, dA, dn, dc, ds, en, cs⟩ := P
 unfold pgV
 dsimp only at HRF HGF HGL hfw hi hiI ⊢
 obtain ⟨g, hg⟩ : ∃ g, gfAt fs i = g := ⟨_, rfl⟩
 rw [hg] at HRF HGF HGL ⊢
 have HG := Lib.hid hg
 clear hg
 obtain ⟨ad, rfl, _, f0, hfc⟩ := HGF.out w (Below.refl _ _)
 have hz := World.block_lt_of_cell? w _ f0
 obtain ⟨c, hcs⟩ : ∃ c, cs i = c := ⟨_, rfl⟩
 rw [hcs] at HRF HGL ⊢
 have HCS := Lib.hid hcs
 clear hcs
 replace HGL := Lib.hid (HGL.out [1, 5])
 obtain ⟨L9, hL9⟩ : ∃ x, gatV g c [1, 5] = x := ⟨_, rfl⟩
 rw [hL9] at HGL ⊢
 replace HRF := Lib.hid (fun W hw An cm hns => (HRF.out W hw An 2 cm [1, 5] hns (by decide)).mono fun e w' hh => by rw [hL9] at hh; exact (hh : IOwn W L9 e w'))
 clear hL9
 obtain ⟨file, item, nm, ⟨cl, ⟨kA, kn, kc⟩, pd, no, fr, tt, ⟨lA, ln, lc⟩, ⟨cA, cn, cc⟩, ⟨rA, rn, rc⟩⟩, ⟨qA, qn, qc⟩, refs⟩ := g
 have f1 := hfc 0 _ rfl
 have f2 := hfc 1 _ rfl
 have f3 := hfc 2 _ rfl
 have f4 := hfc 3 _ rfl
 have f5 := hfc 4 _ rfl
 have f6 := hfc 5 _ rfl
 have f7 := hfc 6 _ rfl
 have f8 := hfc 7 _ rfl
 have f9 := hfc 8 _ rfl
 have f10 := hfc 9 _ rfl
 have f11 := hfc 10 _ rfl
 have f12 := hfc 11 _ rfl
 unfold encGf slV at HRF
 unfold slV at f4 f9 f10 f11 f12
 dsimp only at HRF f0 f1 f2 f3 f4 f5 f6 f7 f8 f9 f10 f11 f12
 clear hfc
 obtain ⟨W0, hW0⟩ : ∃ W0, w.alloc (.cells #[.slice (some ad) fn fc, .slice dA dn dc, .int .i64 en] 29) = W0 := ⟨_, rfl⟩
 have HB0 := Lib.hid (show Below w.heap.size w W0 from by rw [← hW0]; exact alloc_ _ _)
 have hbk : Blk W0 w.heap.size 29 #[.slice (some ad) fn fc, .slice dA dn dc, .int .i64 en] := by rw [← hW0]; exact Blk.new _ _ _
 have c0 : W0.cell? ⟨w.heap.size, 0, none⟩ = some (.slice (some ad) fn fc) := hbk.cell 0
 have c1 : W0.cell? ⟨w.heap.size, 1, none⟩ = some (.slice dA dn dc) := hbk.cell 1
 have c2 : W0.cell? ⟨w.heap.size, 2, none⟩ = some (.int .i64 en) := hbk.cell 2
 replace f0 := cell_on f0 HB0.out
 replace f1 := cell_on f1 HB0.out
 replace f2 := cell_on f2 HB0.out
 replace f3 := cell_on f3 HB0.out
 replace f4 := cell_on f4 HB0.out
 replace f5 := cell_on f5 HB0.out
 replace f6 := cell_on f6 HB0.out
 replace f7 := cell_on f7 HB0.out
 replace f8 := cell_on f8 HB0.out
 replace f9 := cell_on f9 HB0.out
 replace f10 := cell_on f10 HB0.out
 replace f11 := cell_on f11 HB0.out
 replace f12 := cell_on f12 HB0.out
 clear hbk
 unfold IOwn
 go_enter Tryz.func54, Tryz.ntmps54
 go_wp2_with fail
 clear hW0
 have HD := Lib.hid (show Below w.heap.size w W0.drew from HB0.out.drew)
 refine wp_region_noPanic ?_
 refine wp_region_held_drew (S := fun W => W.cell? ⟨w.heap.size, 0, none⟩ = some (.slice (some ad) fn fc) ∧ W.cell? ⟨w.heap.size, 1, none⟩ = some (.slice dA dn dc) ∧ W.cell? ⟨w.heap.size, 2, none⟩ = some (.int .i64 en) ∧ W.cell? (ad.add (i * 13)) = some (.int .i64 (file : Int)) ∧ W.cell? ⟨(ad.add (i * 13)).block, (ad.add (i * 13)).off + 1, none⟩ = some (.int .i64 (item : Int)) ∧ W.cell? ⟨(ad.add (i * 13)).block, (ad.add (i * 13)).off + 2, none⟩ = some (.string nm) ∧ W.cell? ⟨(ad.add (i * 13)).block, (ad.add (i * 13)).off + 3, none⟩ = some (.int .i64 cl) ∧ W.cell? ⟨(ad.add (i * 13)).block, (ad.add (i * 13)).off + 4, none⟩ = some (.slice kA kn kc) ∧ W.cell? ⟨(ad.add (i * 13)).block, (ad.add (i * 13)).off + 5, none⟩ = some (.int .i64 pd) ∧ W.cell? ⟨(ad.add (i * 13)).block, (ad.add (i * 13)).off + 6, none⟩ = some (.bool no) ∧ W.cell? ⟨(ad.add (i * 13)).block, (ad.add (i * 13)).off + 7, none⟩ = some (.int .i64 fr) ∧ W.cell? ⟨(ad.add (i * 13)).block, (ad.add (i * 13)).off + 8, none⟩ = some (.int .i64 tt) ∧ W.cell? ⟨(ad.add (i * 13)).block, (ad.add (i * 13)).off + 9, none⟩ = some (.slice lA ln lc) ∧ W.cell? ⟨(ad.add (i * 13)).block, (ad.add (i * 13)).off + 10, none⟩ = some (.slice cA cn cc) ∧ W.cell? ⟨(ad.add (i * 13)).block, (ad.add (i * 13)).off + 11, none⟩ = some (.slice rA rn rc) ∧ W.cell? ⟨(ad.add (i * 13)).block, (ad.add (i * 13)).off + 12, none⟩ = some (.slice qA qn qc)) (by kernel_rfl) (⟨c0, c1, c2, f0, f1, f2, f3, f4, f5, f6, f7, f8, f9, f10, f11, f12⟩) (fun hHeld => ?_)
 refine tkZ 0 rfl hHeld ?_
 try simp only [Act.put, nmZ]
 refine tkZ 1 rfl hHeld ?_
 try simp only [Act.put, nmZ]
 refine tkZ 2 rfl hHeld ?_
 try simp only [Act.put, nmZ]
 refine tkZ 3 rfl hHeld ?_
 try simp only [Act.put, nmZ]
 refine tkZ 4 rfl hHeld ?_
 try simp only [Act.put, nmZ]
 refine tkZ 7 rfl hHeld ?_
 try simp only [Act.put, nmZ]
 refine tkZ 8 rfl hHeld ?_
 try simp only [Act.put, nmZ]
 refine tkZ 9 rfl hHeld ?_
 try simp only [Act.put, nmZ]
 refine wpAnyH_ready (rs := [5]) (by kernel_rfl) (by simp) ?_
 refine AllReadyH.cons rfl (fun K hK => ?_) AllReadyH.nil
 go_simp
 have HA := Lib.hid (alloc_ W0.drew (.cells #[.int .i64 1, .int .i64 5] 3))
 refine hK.out _ _ (⟨cell_on hHeld.1 HA.out, cell_on hHeld.2.1 HA.out, cell_on hHeld.2.2.1 HA.out, cell_on hHeld.2.2.2.1 HA.out, cell_on hHeld.2.2.2.2.1 HA.out, cell_on hHeld.2.2.2.2.2.1 HA.out, cell_on hHeld.2.2.2.2.2.2.1 HA.out, cell_on hHeld.2.2.2.2.2.2.2.1 HA.out, cell_on hHeld.2.2.2.2.2.2.2.2.1 HA.out, cell_on hHeld.2.2.2.2.2.2.2.2.2.1 HA.out, cell_on hHeld.2.2.2.2.2.2.2.2.2.2.1 HA.out, cell_on hHeld.2.2.2.2.2.2.2.2.2.2.2.1 HA.out, cell_on hHeld.2.2.2.2.2.2.2.2.2.2.2.2.1 HA.out, cell_on hHeld.2.2.2.2.2.2.2.2.2.2.2.2.2.1 HA.out, cell_on hHeld.2.2.2.2.2.2.2.2.2.2.2.2.2.2.1 HA.out, cell_on hHeld.2.2.2.2.2.2.2.2.2.2.2.2.2.2.2 HA.out⟩) ?_
 clear hK K hHeld
 intro hHeld
 try simp only [Act.put, nmZ]
 refine wpAnyH_ready (rs := [6]) (by kernel_rfl) (by simp) ?_
 refine AllReadyH.cons rfl (fun K hK => ?_) AllReadyH.nil
 go_simp
 refine (HRF.out _ (to_ HD.out HA.out) _ _ (il_new W0.drew [1, 5])).mono ?_
 rintro e w3 ⟨v3, rfl, ho3, b3⟩
 obtain ⟨gA, gc, rfl, hil⟩ := own_il ho3
 have HI3 := Lib.hid hil
 have HB3 := Lib.hid (to_ (to_ HD.out HA.out) b3)
 have HS3 := Lib.hid b3
 clear ho3 hil b3
 try go_wp2_with fail
 refine hK.out _ _ (⟨cell_on hHeld.1 HS3.out, cell_on hHeld.2.1 HS3.out, cell_on hHeld.2.2.1 HS3.out, cell_on hHeld.2.2.2.1 HS3.out, cell_on hHeld.2.2.2.2.1 HS3.out, cell_on hHeld.2.2.2.2.2.1 HS3.out, cell_on hHeld.2.2.2.2.2.2.1 HS3.out, cell_on hHeld.2.2.2.2.2.2.2.1 HS3.out, cell_on hHeld.2.2.2.2.2.2.2.2.1 HS3.out, cell_on hHeld.2.2.2.2.2.2.2.2.2.1 HS3.out, cell_on hHeld.2.2.2.2.2.2.2.2.2.2.1 HS3.out, cell_on hHeld.2.2.2.2.2.2.2.2.2.2.2.1 HS3.out, cell_on hHeld.2.2.2.2.2.2.2.2.2.2.2.2.1 HS3.out, cell_on hHeld.2.2.2.2.2.2.2.2.2.2.2.2.2.1 HS3.out, cell_on hHeld.2.2.2.2.2.2.2.2.2.2.2.2.2.2.1 HS3.out, cell_on hHeld.2.2.2.2.2.2.2.2.2.2.2.2.2.2.2 HS3.out⟩) ?_
 clear hK K hHeld
 intro hHeld
 try simp only [Act.put, nmZ]
 refine wpAnyH_ready (rs := [10]) (by kernel_rfl) (by simp) ?_
 refine AllReadyH.cons rfl (fun K hK => ?_) AllReadyH.nil
 go_simp
 refine (rising_any w3 _ _ _ _ fn HI3.out HGL.out (by omega)).mono ?_
 rintro e w4 ⟨v4, rfl, ho4, b4⟩
 have HO4 := Lib.hid ho4
 have HB4 := Lib.hid (to_ HB3.out b4)
 have HS4 := Lib.hid b4
 have HZ4 := Lib.hid (show w.heap.size ≤ w3.heap.size from HB3.out.size)
 clear ho4 b4
 try go_wp2_with fail
 refine hK.out _ _ (⟨cell_on hHeld.1 HS4.out, cell_on hHeld.2.1 HS4.out, cell_on hHeld.2.2.1 HS4.out, cell_on hHeld.2.2.2.1 HS4.out, cell_on hHeld.2.2.2.2.1 HS4.out, cell_on hHeld.2.2.2.2.2.1 HS4.out, cell_on hHeld.2.2.2.2.2.2.1 HS4.out, cell_on hHeld.2.2.2.2.2.2.2.1 HS4.out, cell_on hHeld.2.2.2.2.2.2.2.2.1 HS4.out, cell_on hHeld.2.2.2.2.2.2.2.2.2.1 HS4.out, cell_on hHeld.2.2.2.2.2.2.2.2.2.2.1 HS4.out, cell_on hHeld.2.2.2.2.2.2.2.2.2.2.2.1 HS4.out, cell_on hHeld.2.2.2.2.2.2.2.2.2.2.2.2.1 HS4.out, cell_on hHeld.2.2.2.2.2.2.2.2.2.2.2.2.2.1 HS4.out, cell_on hHeld.2.2.2.2.2.2.2.2.2.2.2.2.2.2.1 HS4.out, cell_on hHeld.2.2.2.2.2.2.2.2.2.2.2.2.2.2.2 HS4.out⟩) ?_
 clear hK K hHeld
 intro hHeld
 try simp only [Act.put, nmZ]
 refine tkZ 11 rfl hHeld ?_
 try simp only [Act.put, nmZ]
 refine wpAnyH_done (by kernel_rfl) ?_ _
 refine NoPanic.normal ?_
 clear hHeld c0 c1 c2 f0 f1 f2 f3 f4 f5 f6 f7 f8 f9 f10 f11 f12
 go_wp2_with fail
 go_ret
 exact ⟨_, rfl, own_lower HO4.out HZ4.out, HB4.out⟩
set_option maxRecDepth 100000 in
set_option maxHeartbeats 8000000 in
theorem datas_doc (w : World) (P : Pgm) (h : PgR w P) (i : Nat) (hi : i < P.fn) :
  Calls Tryz.prog 58 #[pgV P, .int .i64 (i : Int)] w (IOwn w (rise P.dn (gatV (gfAt P.fs i) (P.cs i) [3, 4]))) := by
 have hfw := h.few
 have HRF := Lib.hid (fun W (hb : Below w.heap.size w W) An m cm ns hns hm => refs_any W (gfAt P.fs i) (P.cs i) (h.on hb |>.fns i hi) An m cm ns hns hm)
 have HGF := Lib.hid (fun W (hb : Below w.heap.size w W) => gf_at (h.on hb).fr hi)
 have HGL := Lib.hid (show ∀ ns, (gatV (gfAt P.fs i) (P.cs i) ns).length ≤ 1000000 from fun ns => by
  have h9 := (h.fns i hi).few
  have h8 := gatL_len (P.cs i) (gfAt P.fs i).refs (okN ns) (min (gfAt P.fs i).F.code.2.1 (gfAt P.fs i).R.2.1)
  unfold gatV
  omega)
 have hiI : (i : Int) < (P.fn : Int) := by omega
 have hi0 : (0 : Int) ≤ (i : Int) := by omega
 clear h
 obtain ⟨fA, fn, fc, fs, dA, dn, dc, ds, en, cs⟩ := P
 unfold pgV
 dsimp only at HRF HGF HGL hfw hi hiI ⊢
 obtain ⟨g, hg⟩ : ∃ g, gfAt fs i = g := ⟨_, rfl⟩
 rw [hg] at HRF HGF HGL ⊢
 have HG := Lib.hid hg
 clear hg
 obtain ⟨ad, rfl, _, f0, hfc⟩ := HGF.out w (Below.refl _ _)
 have hz := World.block_lt_of_cell? w _ f0
 obtain ⟨c, hcs⟩ : ∃ c, cs i = c := ⟨_, rfl⟩
 rw [hcs] at HRF HGL ⊢
 have HCS := Lib.hid hcs
 clear hcs
 replace HGL := Lib.hid (HGL.out [3, 4])
 obtain ⟨L9, hL9⟩ : ∃ x, gatV g c [3, 4] = x := ⟨_, rfl⟩
 rw [hL9] at HGL ⊢
 replace HRF := Lib.hid (fun W hw An cm hns => (HRF.out W hw An 2 cm [3, 4] hns (by decide)).mono fun e w' hh => by rw [hL9] at hh; exact (hh : IOwn W L9 e w'))
 clear hL9
 obtain ⟨file, item, nm, ⟨cl, ⟨kA, kn, kc⟩, pd, no, fr, tt, ⟨lA, ln, lc⟩, ⟨cA, cn, cc⟩, ⟨rA, rn, rc⟩⟩, ⟨qA, qn, qc⟩, refs⟩ := g
 have f1 := hfc 0 _ rfl
 have f2 := hfc 1 _ rfl
 have f3 := hfc 2 _ rfl
 have f4 := hfc 3 _ rfl
 have f5 := hfc 4 _ rfl
 have f6 := hfc 5 _ rfl
 have f7 := hfc 6 _ rfl
 have f8 := hfc 7 _ rfl
 have f9 := hfc 8 _ rfl
 have f10 := hfc 9 _ rfl
 have f11 := hfc 10 _ rfl
 have f12 := hfc 11 _ rfl
 unfold encGf slV at HRF
 unfold slV at f4 f9 f10 f11 f12
 dsimp only at HRF f0 f1 f2 f3 f4 f5 f6 f7 f8 f9 f10 f11 f12
 clear hfc
 obtain ⟨W0, hW0⟩ : ∃ W0, w.alloc (.cells #[.slice (some ad) fn fc, .slice dA dn dc, .int .i64 en] 29) = W0 := ⟨_, rfl⟩
 have HB0 := Lib.hid (show Below w.heap.size w W0 from by rw [← hW0]; exact alloc_ _ _)
 have hbk : Blk W0 w.heap.size 29 #[.slice (some ad) fn fc, .slice dA dn dc, .int .i64 en] := by rw [← hW0]; exact Blk.new _ _ _
 have c0 : W0.cell? ⟨w.heap.size, 0, none⟩ = some (.slice (some ad) fn fc) := hbk.cell 0
 have c1 : W0.cell? ⟨w.heap.size, 1, none⟩ = some (.slice dA dn dc) := hbk.cell 1
 have c2 : W0.cell? ⟨w.heap.size, 2, none⟩ = some (.int .i64 en) := hbk.cell 2
 replace f0 := cell_on f0 HB0.out
 replace f1 := cell_on f1 HB0.out
 replace f2 := cell_on f2 HB0.out
 replace f3 := cell_on f3 HB0.out
 replace f4 := cell_on f4 HB0.out
 replace f5 := cell_on f5 HB0.out
 replace f6 := cell_on f6 HB0.out
 replace f7 := cell_on f7 HB0.out
 replace f8 := cell_on f8 HB0.out
 replace f9 := cell_on f9 HB0.out
 replace f10 := cell_on f10 HB0.out
 replace f11 := cell_on f11 HB0.out
 replace f12 := cell_on f12 HB0.out
 clear hbk
 unfold IOwn
 go_enter Tryz.func58, Tryz.ntmps58
 go_wp2_with fail
 clear hW0
 have HD := Lib.hid (show Below w.heap.size w W0.drew from HB0.out.drew)
 refine wp_region_noPanic ?_
 refine wp_region_held_drew (S := fun W => W.cell? ⟨w.heap.size, 0, none⟩ = some (.slice (some ad) fn fc) ∧ W.cell? ⟨w.heap.size, 1, none⟩ = some (.slice dA dn dc) ∧ W.cell? ⟨w.heap.size, 2, none⟩ = some (.int .i64 en) ∧ W.cell? (ad.add (i * 13)) = some (.int .i64 (file : Int)) ∧ W.cell? ⟨(ad.add (i * 13)).block, (ad.add (i * 13)).off + 1, none⟩ = some (.int .i64 (item : Int)) ∧ W.cell? ⟨(ad.add (i * 13)).block, (ad.add (i * 13)).off + 2, none⟩ = some (.string nm) ∧ W.cell? ⟨(ad.add (i * 13)).block, (ad.add (i * 13)).off + 3, none⟩ = some (.int .i64 cl) ∧ W.cell? ⟨(ad.add (i * 13)).block, (ad.add (i * 13)).off + 4, none⟩ = some (.slice kA kn kc) ∧ W.cell? ⟨(ad.add (i * 13)).block, (ad.add (i * 13)).off + 5, none⟩ = some (.int .i64 pd) ∧ W.cell? ⟨(ad.add (i * 13)).block, (ad.add (i * 13)).off + 6, none⟩ = some (.bool no) ∧ W.cell? ⟨(ad.add (i * 13)).block, (ad.add (i * 13)).off + 7, none⟩ = some (.int .i64 fr) ∧ W.cell? ⟨(ad.add (i * 13)).block, (ad.add (i * 13)).off + 8, none⟩ = some (.int .i64 tt) ∧ W.cell? ⟨(ad.add (i * 13)).block, (ad.add (i * 13)).off + 9, none⟩ = some (.slice lA ln lc) ∧ W.cell? ⟨(ad.add (i * 13)).block, (ad.add (i * 13)).off + 10, none⟩ = some (.slice cA cn cc) ∧ W.cell? ⟨(ad.add (i * 13)).block, (ad.add (i * 13)).off + 11, none⟩ = some (.slice rA rn rc) ∧ W.cell? ⟨(ad.add (i * 13)).block, (ad.add (i * 13)).off + 12, none⟩ = some (.slice qA qn qc)) (by kernel_rfl) (⟨c0, c1, c2, f0, f1, f2, f3, f4, f5, f6, f7, f8, f9, f10, f11, f12⟩) (fun hHeld => ?_)
 refine tkZ 0 rfl hHeld ?_
 try simp only [Act.put, nmZ]
 refine tkZ 1 rfl hHeld ?_
 try simp only [Act.put, nmZ]
 refine tkZ 2 rfl hHeld ?_
 try simp only [Act.put, nmZ]
 refine tkZ 3 rfl hHeld ?_
 try simp only [Act.put, nmZ]
 refine tkZ 4 rfl hHeld ?_
 try simp only [Act.put, nmZ]
 refine tkZ 7 rfl hHeld ?_
 try simp only [Act.put, nmZ]
 refine tkZ 8 rfl hHeld ?_
 try simp only [Act.put, nmZ]
 refine tkZ 9 rfl hHeld ?_
 try simp only [Act.put, nmZ]
 refine wpAnyH_ready (rs := [5]) (by kernel_rfl) (by simp) ?_
 refine AllReadyH.cons rfl (fun K hK => ?_) AllReadyH.nil
 go_simp
 have HA := Lib.hid (alloc_ W0.drew (.cells #[.int .i64 3, .int .i64 4] 3))
 refine hK.out _ _ (⟨cell_on hHeld.1 HA.out, cell_on hHeld.2.1 HA.out, cell_on hHeld.2.2.1 HA.out, cell_on hHeld.2.2.2.1 HA.out, cell_on hHeld.2.2.2.2.1 HA.out, cell_on hHeld.2.2.2.2.2.1 HA.out, cell_on hHeld.2.2.2.2.2.2.1 HA.out, cell_on hHeld.2.2.2.2.2.2.2.1 HA.out, cell_on hHeld.2.2.2.2.2.2.2.2.1 HA.out, cell_on hHeld.2.2.2.2.2.2.2.2.2.1 HA.out, cell_on hHeld.2.2.2.2.2.2.2.2.2.2.1 HA.out, cell_on hHeld.2.2.2.2.2.2.2.2.2.2.2.1 HA.out, cell_on hHeld.2.2.2.2.2.2.2.2.2.2.2.2.1 HA.out, cell_on hHeld.2.2.2.2.2.2.2.2.2.2.2.2.2.1 HA.out, cell_on hHeld.2.2.2.2.2.2.2.2.2.2.2.2.2.2.1 HA.out, cell_on hHeld.2.2.2.2.2.2.2.2.2.2.2.2.2.2.2 HA.out⟩) ?_
 clear hK K hHeld
 intro hHeld
 try simp only [Act.put, nmZ]
 refine wpAnyH_ready (rs := [6]) (by kernel_rfl) (by simp) ?_
 refine AllReadyH.cons rfl (fun K hK => ?_) AllReadyH.nil
 go_simp
 refine (HRF.out _ (to_ HD.out HA.out) _ _ (il_new W0.drew [3, 4])).mono ?_
 rintro e w3 ⟨v3, rfl, ho3, b3⟩
 obtain ⟨gA, gc, rfl, hil⟩ := own_il ho3
 have HI3 := Lib.hid hil
 have HB3 := Lib.hid (to_ (to_ HD.out HA.out) b3)
 have HS3 := Lib.hid b3
 clear ho3 hil b3
 try go_wp2_with fail
 refine hK.out _ _ (⟨cell_on hHeld.1 HS3.out, cell_on hHeld.2.1 HS3.out, cell_on hHeld.2.2.1 HS3.out, cell_on hHeld.2.2.2.1 HS3.out, cell_on hHeld.2.2.2.2.1 HS3.out, cell_on hHeld.2.2.2.2.2.1 HS3.out, cell_on hHeld.2.2.2.2.2.2.1 HS3.out, cell_on hHeld.2.2.2.2.2.2.2.1 HS3.out, cell_on hHeld.2.2.2.2.2.2.2.2.1 HS3.out, cell_on hHeld.2.2.2.2.2.2.2.2.2.1 HS3.out, cell_on hHeld.2.2.2.2.2.2.2.2.2.2.1 HS3.out, cell_on hHeld.2.2.2.2.2.2.2.2.2.2.2.1 HS3.out, cell_on hHeld.2.2.2.2.2.2.2.2.2.2.2.2.1 HS3.out, cell_on hHeld.2.2.2.2.2.2.2.2.2.2.2.2.2.1 HS3.out, cell_on hHeld.2.2.2.2.2.2.2.2.2.2.2.2.2.2.1 HS3.out, cell_on hHeld.2.2.2.2.2.2.2.2.2.2.2.2.2.2.2 HS3.out⟩) ?_
 clear hK K hHeld
 intro hHeld
 try simp only [Act.put, nmZ]
 refine wpAnyH_ready (rs := [10]) (by kernel_rfl) (by simp) ?_
 refine AllReadyH.cons rfl (fun K hK => ?_) AllReadyH.nil
 go_simp
 refine (rising_any w3 _ _ _ _ dn HI3.out HGL.out (by omega)).mono ?_
 rintro e w4 ⟨v4, rfl, ho4, b4⟩
 have HO4 := Lib.hid ho4
 have HB4 := Lib.hid (to_ HB3.out b4)
 have HS4 := Lib.hid b4
 have HZ4 := Lib.hid (show w.heap.size ≤ w3.heap.size from HB3.out.size)
 clear ho4 b4
 try go_wp2_with fail
 refine hK.out _ _ (⟨cell_on hHeld.1 HS4.out, cell_on hHeld.2.1 HS4.out, cell_on hHeld.2.2.1 HS4.out, cell_on hHeld.2.2.2.1 HS4.out, cell_on hHeld.2.2.2.2.1 HS4.out, cell_on hHeld.2.2.2.2.2.1 HS4.out, cell_on hHeld.2.2.2.2.2.2.1 HS4.out, cell_on hHeld.2.2.2.2.2.2.2.1 HS4.out, cell_on hHeld.2.2.2.2.2.2.2.2.1 HS4.out, cell_on hHeld.2.2.2.2.2.2.2.2.2.1 HS4.out, cell_on hHeld.2.2.2.2.2.2.2.2.2.2.1 HS4.out, cell_on hHeld.2.2.2.2.2.2.2.2.2.2.2.1 HS4.out, cell_on hHeld.2.2.2.2.2.2.2.2.2.2.2.2.1 HS4.out, cell_on hHeld.2.2.2.2.2.2.2.2.2.2.2.2.2.1 HS4.out, cell_on hHeld.2.2.2.2.2.2.2.2.2.2.2.2.2.2.1 HS4.out, cell_on hHeld.2.2.2.2.2.2.2.2.2.2.2.2.2.2.2 HS4.out⟩) ?_
 clear hK K hHeld
 intro hHeld
 try simp only [Act.put, nmZ]
 refine tkZ 11 rfl hHeld ?_
 try simp only [Act.put, nmZ]
 refine wpAnyH_done (by kernel_rfl) ?_ _
 refine NoPanic.normal ?_
 clear hHeld c0 c1 c2 f0 f1 f2 f3 f4 f5 f6 f7 f8 f9 f10 f11 f12
 go_wp2_with fail
 go_ret
 exact ⟨_, rfl, own_lower HO4.out HZ4.out, HB4.out⟩
end Go.Proofs.YtnenmgefgdpkdaaGreat.Bo
