/-
  WALKS of layer 29: Starts: the program's.
-/
import Derived.Test.YtbcabomblfehlabUc
import Derived.Test.YtbcabomblfehlabUd
namespace Go.Proofs.Ytbcabomblfehlab.Bo
open Go.RowKit Go.Maps
open Mem Rf By
attribute [local go_sem] Oper.semAt_some
set_option linter.unusedSimpArgs false
set_option linter.unusedVariables false

def stA (P : Pgm) (p : Pn) (pre : List Nat) : Array Value := arrN P.fn fun k => .int .i64 (if k ∈ pre then stV (szf P p) 2 k else -1)
theorem stA_set {P : Pgm} {p : Pn} {pre : List Nat} (x : Nat) : (stA P p pre).setIfInBounds x (.int .i64 (stV (szf P p) 2 x)) = stA P p (pre ++ [x]) := by
  unfold stA
  rw [arrN_set]
  congr 1
  funext j
  by_cases h : j = x
  · subst h; simp
  · simp [h]
theorem il_arr {W : World} {db n : Nat} {g : Nat → Int} (h : Blk W db 3 (arrN n fun k => .int .i64 (g k))) (hn : n ≤ 1000) : IL W (some ⟨db, 0, none⟩) n n ((List.range n).map g) := by
  have := wd_blk (enc := encI) (l := (List.range n).map g) h (fun _ => rfl) (by unfold arrN; congr 1; rw [List.flatMap_map]; induction (List.range n) with | nil => rfl | cons a l ih => simp [encI, ih]) (by unfold maxLen; simp; omega)
  rwa [List.length_map, List.length_range] at this

set_option maxRecDepth 100000 in
set_option maxHeartbeats 4000000 in
theorem starts_any (w : World) (P : Pgm) (p : Pn) (hr : RdF w w.heap.size P p) :
    Calls Try.prog 9 #[pgV P, pnV p] w fun e w' => ∃ A c, e = .returned (.slice A P.fn c) ∧ IL w' A P.fn c (startsL P p) ∧ Below w.heap.size w w' := by
  have hfn := hr.fn
  have HFU := Lib.hid (fun W => functions_any W P p hr.fn)
  have HTL := Lib.hid (fun W m (hI : ItF W m P p) (hb : Below w.heap.size w W) => functions_tells 3 W m w.heap.size P p hI (hr.below hb) hb.size)
  have HRP := Lib.hid (fun W ad (hc : W.cell? (Addr.add ad 0) = some (.int .i64 (-1))) => repeat_any W ad (-1) P.fn 1 hr.fn hc)
  have HTO := Lib.hid (fun pre x (h : pre ++ [x] <+: told (szf P p) P.fn) => (told_of h).1)
  have HSET := Lib.hid (fun pre => @stA_set P p pre)
  have HEND : Hid (∀ W db, Blk W db 3 (stA P p (told (szf P p) P.fn)) → IL W (some ⟨db, 0, none⟩) P.fn P.fn (startsL P p)) := Lib.hid (fun W db h => il_arr (by
    have e : stA P p (told (szf P p) P.fn) = arrN P.fn fun k => .int .i64 (startV P p k) := by
      unfold stA arrN
      congr 1
      refine List.map_congr_left fun k hk => ?_
      have hk := List.mem_range.1 hk
      unfold startV
      by_cases h0 : 0 < szf P p k
      · rw [if_pos (mem_told.2 ⟨hk, h0⟩), if_pos h0]
      · rw [if_neg (fun h => h0 (mem_told.1 h).2), if_neg h0]
    rw [← e]; exact h) hr.fn)
  have HSA : Hid (∀ pre x, x < P.fn → ∃ v, (stA P p pre)[x]? = some v) := Lib.hid (fun pre x hx => ⟨_, arrN_at _ hx⟩)
  have HST0 : Hid (stA P p [] = arrN P.fn fun _ => .int .i64 (-1)) := Lib.hid (by unfold stA; simp)
  obtain ⟨sA, hsA⟩ : ∃ sA, stA P p = sA := ⟨_, rfl⟩
  rw [hsA] at HSET HEND HST0 HSA
  obtain ⟨s, hs⟩ : ∃ s, szf P p = s := ⟨_, rfl⟩
  rw [hs] at HTL HTO HSET HEND
  clear hsA hs hr
  obtain ⟨sl, hsl⟩ : ∃ sl, startsL P p = sl := ⟨_, rfl⟩
  rw [hsl] at HEND ⊢
  clear hsl
  obtain ⟨fA, fn, fc, fs, dA, dn, dc, ds, en, cs⟩ := P
  obtain ⟨kA, kn, kc, ks, cA, cn, cc, cl⟩ := p
  unfold pgV pnV at HFU ⊢
  dsimp only at HFU HTL HRP HTO HEND HST0 HSA hfn ⊢
  obtain ⟨W0, hW0⟩ : ∃ W0, ((w.alloc (.cells #[.slice fA fn fc, .slice dA dn dc, .int .i64 en] 30)).alloc (.cells #[.slice kA kn kc, .slice cA cn cc] 26)).alloc (.cells #[.int .i64 (-1)] 3) = W0 := ⟨_, rfl⟩
  have HW0 := Lib.hid hW0
  have HB0 := Lib.hid (show Below w.heap.size w W0 from by rw [← hW0]; exact to_ (alloc_ _ _) (to_ (alloc_ _ _) (alloc_ _ _)))
  have hP0 : Blk W0 w.heap.size 30 #[.slice fA fn fc, .slice dA dn dc, .int .i64 en] := by rw [← hW0]; exact ((Blk.new _ _ _).alloc _).alloc _
  have hp0 : Blk W0 (w.heap.size + 1) 26 #[.slice kA kn kc, .slice cA cn cc] := by
    rw [← hW0]
    have := (Blk.new (w.alloc (.cells #[.slice fA fn fc, .slice dA dn dc, .int .i64 en] 30)) 26 #[.slice kA kn kc, .slice cA cn cc]).alloc (.cells #[.int .i64 (-1)] 3)
    rwa [World.size_alloc] at this
  have hl0 : Blk W0 (w.heap.size + 2) 3 #[.int .i64 (-1)] := by
    rw [← hW0]
    have := Blk.new ((w.alloc (.cells #[.slice fA fn fc, .slice dA dn dc, .int .i64 en] 30)).alloc (.cells #[.slice kA kn kc, .slice cA cn cc] 26)) 3 #[.int .i64 (-1)]
    rwa [World.size_alloc, World.size_alloc] at this
  have HP0 := Lib.hid hP0
  have Hp0 := Lib.hid hp0
  have HR0 := Lib.hid (HRP.out W0 ⟨w.heap.size + 2, 0, none⟩ (by rw [add_plain]; exact hl0.cell 0))
  have x0 : W0.cell? ⟨w.heap.size, 0, none⟩ = some (.slice fA fn fc) := hP0.cell 0
  clear HRP hP0 hp0 hl0
  refine (callsIn_wide (n := 4)).1 ?_
  refine callsIn_of_wp_marks Try.func9 rfl trivial ?_ rfl
  simp only [Try.ntmps9, List.size_toArray, List.length_cons, List.length_nil, Nat.reduceAdd, Nat.reduceSub, Array.replicate_succ, Array.replicate_zero, List.push_toArray, List.append_toArray, List.nil_append, List.cons_append]
  gi_wp2_with (first | (refine ⟨trivial, ?_⟩; gi_at_call 24; refine (callsIn_wide.2 HR0.out).mono ?_; rintro e w2 ⟨db, rfl, hdb, hrow, hb2⟩; obtain ⟨W2, hW2⟩ : ∃ x, w2.alloc (.cells #[.slice (some ⟨db, 0, none⟩) fn fn] 24) = x := ⟨_, rfl⟩; have HS2 := Lib.hid (show W2.heap.size = w2.heap.size + 1 from by rw [← hW2]; simp); have HROW := Lib.hid (show Blk W2 db 3 (sA []) from by rw [HST0.out, ← hW2]; exact hrow.alloc _); have HVB := Lib.hid (show Blk W2 w2.heap.size 24 #[.slice (some ⟨db, 0, none⟩) fn fn] from by rw [← hW2]; exact Blk.new _ _ _); have HB2 := Lib.hid (show Below W0.heap.size W0 W2 from by rw [← hW2]; exact to_ hb2 (alloc_ _ _)); have HDB := Lib.hid (show W0.heap.size ≤ db ∧ db < w2.heap.size from ⟨hdb, hrow.lt⟩); clear hrow hb2 hdb; have y9 := HP0.out.below HB2.out HP0.out.lt; have z9 := Hp0.out.below HB2.out Hp0.out.lt; have y0 : W2.cell? ⟨w.heap.size, 0, none⟩ = some (.slice fA fn fc) := y9.cell 0; have y1 : W2.cell? ⟨w.heap.size, 1, none⟩ = some (.slice dA dn dc) := y9.cell 1; have y2 : W2.cell? ⟨w.heap.size, 2, none⟩ = some (.int .i64 en) := y9.cell 2; have z0 : W2.cell? ⟨w.heap.size + 1, 0, none⟩ = some (.slice kA kn kc) := z9.cell 0; have z1 : W2.cell? ⟨w.heap.size + 1, 1, none⟩ = some (.slice cA cn cc) := z9.cell 1; clear y9 z9) | (refine ⟨trivial, ?_⟩; gi_at_call 25; refine (callsIn_wide.2 (HFU.out W2)).mono ?_; rintro e w3 ⟨rfl, hI, hs3, hb3⟩; unfold itV; have HI := Lib.hid hI; have HS3 := Lib.hid hs3; have HB3 := Lib.hid hb3; clear hI hs3 hb3 y0 y1 y2 z0 z1 hW2))
  have hs2 := HS2.out
  have hs3 := HS3.out
  have hdb := HDB.out
  have hs0 : W0.heap.size = w.heap.size + 3 := by rw [← HW0.out]; simp
  have hb02 : W0.heap.size ≤ w2.heap.size := by omega
  have HBW := Lib.hid (show Below w.heap.size w w3 from to_ HB0.out (to_ HB2.out HB3.out))
  have hr3 : Blk w3 db 3 (sA []) := HROW.out.below HB3.out HROW.out.lt
  have hv3 : w3.cell? ⟨w2.heap.size, 0, none⟩ = some (.slice (some ⟨db, 0, none⟩) fn fn) := (HVB.out.below HB3.out HVB.out.lt).cell 0
  refine wpIn_rangeX rfl (by decide) (gf := 60) (lb := #[.pointer (some ⟨W2.heap.size + 2, 0, none⟩), .pointer (some ⟨W2.heap.size + 3, 0, none⟩), .pointer (some ⟨W2.heap.size + 4, 0, none⟩)]) rfl trivial (enters_of Try.func60 (by kernel_rfl) rfl) (HTL.out w3 W2.heap.size HI.out HBW.out) (Below.refl _ _) (fun _ => rfl)
    (fun k => k < w3.heap.size) (fun k h h' => by unfold Two at h; omega) (fun k h => trivial) (fun k h => trivial) (by unfold InIt; omega)
    (fun pre X => (X.cell? ⟨w2.heap.size, 0, none⟩ = some (.slice (some ⟨db, 0, none⟩) fn fn) ∧ Blk X db 3 (sA pre)) ∧ Below w.heap.size w X ∧ w3.heap.size ≤ X.heap.size)
    (fun _ _ _ => False)
    (fun pre X Y ⟨⟨h1, h2⟩, h3, h4⟩ hk => ⟨⟨hk.cell (by show w2.heap.size < w3.heap.size; omega) h1, (hk.block _ (by show db < w3.heap.size; omega) h2.lt).trans h2⟩, h3.trans (hk.below (by omega) (fun k hk1 => by omega)), Nat.le_trans h4 hk.size⟩)
    (fun _ _ _ _ h _ _ => h)
    ⟨⟨hv3, hr3⟩, HBW.out, Nat.le_refl _⟩
    (fun x X => { tmps := #[.agg #[.slice fA fn fc, .slice dA dn dc, .int .i64 en], .agg #[.slice kA kn kc, .slice cA cn cc], .pointer (some ⟨w.heap.size, 0, none⟩), .pointer (some ⟨w.heap.size + 1, 0, none⟩), .slice none 0 0, .pointer (some ⟨w2.heap.size, 0, none⟩), .int .i64 (x : Int), .pointer (some ⟨X.heap.size, 0, none⟩), .slice (some ⟨w.heap.size + 1 + 1, 0, none⟩) 1 1, .pointer (some ⟨w.heap.size, 0, none⟩), .slice fA fn fc, .int .i64 (fn : Int), .slice (some ⟨db, 0, none⟩) fn fn, .agg #[.slice fA fn fc, .slice dA dn dc, .int .i64 en], .agg #[.slice kA kn kc, .slice cA cn cc], .func (.func 60) #[] #[.pointer (some ⟨W2.heap.size + 2, 0, none⟩), .pointer (some ⟨W2.heap.size + 3, 0, none⟩), .pointer (some ⟨W2.heap.size + 4, 0, none⟩)], .int .i64 (x : Int), .agg #[.int .i64 (stV s 2 x), .int .i64 (stV s 2 (x + 1))], undef, undef, undef, undef, undef, undef], defers := [] })
    (fun x X => X.alloc (.cells #[.int .i64 (stV s 2 x), .int .i64 (stV s 2 (x + 1))] 65))
    (fun x X => (Keeps.refl _ X).alloc _) ?assign ?body ?done ?stop
  case assign =>
    intro l1 x X K hK
    clear hs2 hs3 hdb hs0 hb02 hr3 hv3
    unfold spE
    gi_wp2
    exact hK
  case body =>
    rintro l1 pre x V0 X ⟨⟨hvb, hrb⟩, hbel, hsz⟩ hpre hsz2 hk hcl
    have hx0 : (0 : Int) ≤ (x : Int) := by omega
    have hxm := HTO.out pre x hpre
    have hxI : (x : Int) < (fn : Int) := by omega
    obtain ⟨v9, hv9⟩ := HSA.out pre x hxm
    have c0 : X.cell? ⟨V0.heap.size, 0, none⟩ = some (.int .i64 (stV s 2 x)) := by rw [hcl]; exact (Blk.new V0 _ _).cell 0
    have r0 : X.cell? ⟨db, x, none⟩ = some v9 := by rw [hrb.cell]; exact hv9
    have hfr : X.frozen? ⟨db, x, none⟩ = false := hrb.frozen x
    have HRB := Lib.hid hrb
    have HB9 := Lib.hid hbel
    have HSE := Lib.hid (HSET.out pre x)
    clear hrb hbel hpre hk hcl hr3 hv3 hs2
    gi_wp2
    have hs2 := HS2.out
    refine ⟨(Keeps.refl _ X).setCell (by unfold Two InIt; simp; omega) _, ⟨?_, ?_⟩, HB9.out.setCell (p := ⟨db, x, none⟩) (by show w.heap.size ≤ db; omega) _, ?_⟩
    · rw [World.cell?_setCell_other _ _ _ _ (by simp <;> omega)]; exact hvb
    · rw [← HSE.out]; exact HRB.out.stored _ _
    · simpa [World.setCell] using hsz
  case done =>
    rintro X ⟨⟨hvb, hrb⟩, hbel, hsz⟩ hD
    have HRB := Lib.hid hrb
    have HB9 := Lib.hid hbel
    clear hrb hbel hr3 hv3 hs2
    gi_wp2
    have hs2 := HS2.out
    refine ⟨by simp, .inl ⟨_, _, rfl, run_takeDeferred hD, ?_⟩⟩
    refine ⟨_, results_tmp rfl _ _ _, _, _, rfl, ?_, ?_⟩
    · exact HEND.out _ db ((World.putObj_heap_other (by omega)).trans HRB.out)
    · exact HB9.out.trans ⟨rfl, rfl, rfl, by simp, fun k hk => World.putObj_heap_other (by omega)⟩
  case stop =>
    rintro ch pre X _ h _
    exact h.elim
end Go.Proofs.Ytbcabomblfehlab.Bo
