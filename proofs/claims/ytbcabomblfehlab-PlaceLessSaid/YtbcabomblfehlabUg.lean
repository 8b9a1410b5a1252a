/-
  WALKS of layer 29: Code, Addrs, Words: the program's.
-/
import Derived.Test.YtbcabomblfehlabUe
namespace Go.Proofs.Ytbcabomblfehlab.Bo
open Go.RowKit Go.Maps
open Mem Rf By
attribute [local go_sem] Oper.semAt_some
set_option linter.unusedSimpArgs false
set_option linter.unusedVariables false

set_option maxRecDepth 100000 in
set_option maxHeartbeats 4000000 in
theorem code_any (w : World) (P : Pgm) (p : Pn) (hr : RdF w w.heap.size P p) :
    Calls Try.prog 11 #[pgV P, pnV p] w fun e w' => e = .returned (.int .i64 (codeV P p)) ∧ Below w.heap.size w w' := by
  have HFU := Lib.hid (fun W => functions_any W P p hr.fn)
  have HTL := Lib.hid (fun W m (hI : ItF W m P p) (hb : Below w.heap.size w W) => functions_tells 3 W m w.heap.size P p hI (hr.below hb) hb.size)
  have HEND : Hid (stV (szf P p) 2 (lastV (told (szf P p) P.fn)) = codeV P p) := Lib.hid (stV_last (fun k hk => (szf_in hr.cd k hk).1))
  obtain ⟨z, hz⟩ : ∃ z, codeV P p = z := ⟨_, rfl⟩
  rw [hz] at HEND ⊢
  obtain ⟨s, hs⟩ : ∃ s, szf P p = s := ⟨_, rfl⟩
  rw [hs] at HTL HEND
  have hst0 : stV s 2 (lastV []) = 2 := rfl
  clear hs hz hr
  obtain ⟨fA, fn, fc, fs, dA, dn, dc, ds, en, cs⟩ := P
  obtain ⟨kA, kn, kc, ks, cA, cn, cc, cl⟩ := p
  unfold pgV pnV at HFU ⊢
  dsimp only at HFU HTL HEND ⊢
  obtain ⟨W0, hW0⟩ : ∃ W0, ((w.alloc (.cells #[.slice fA fn fc, .slice dA dn dc, .int .i64 en] 30)).alloc (.cells #[.slice kA kn kc, .slice cA cn cc] 26)).alloc (.cells #[.int .i64 2] 3) = W0 := ⟨_, rfl⟩
  have HW0 := Lib.hid hW0
  have HB0 := Lib.hid (show Below w.heap.size w W0 from by rw [← hW0]; exact to_ (alloc_ _ _) (to_ (alloc_ _ _) (alloc_ _ _)))
  have hP0 : Blk W0 w.heap.size 30 #[.slice fA fn fc, .slice dA dn dc, .int .i64 en] := by rw [← hW0]; exact ((Blk.new _ _ _).alloc _).alloc _
  have hp0 : Blk W0 (w.heap.size + 1) 26 #[.slice kA kn kc, .slice cA cn cc] := by
    rw [← hW0]
    have := (Blk.new (w.alloc (.cells #[.slice fA fn fc, .slice dA dn dc, .int .i64 en] 30)) 26 #[.slice kA kn kc, .slice cA cn cc]).alloc (.cells #[.int .i64 2] 3)
    rwa [World.size_alloc] at this
  have z0 : W0.cell? ⟨w.heap.size + 1, 0, none⟩ = some (.slice kA kn kc) := hp0.cell 0
  have z1 : W0.cell? ⟨w.heap.size + 1, 1, none⟩ = some (.slice cA cn cc) := hp0.cell 1
  have hl0 : Blk W0 (w.heap.size + 2) 3 #[.int .i64 2] := by
    rw [← hW0]
    have := Blk.new ((w.alloc (.cells #[.slice fA fn fc, .slice dA dn dc, .int .i64 en] 30)).alloc (.cells #[.slice kA kn kc, .slice cA cn cc] 26)) 3 #[.int .i64 2]
    rwa [World.size_alloc, World.size_alloc] at this
  have x0 : W0.cell? ⟨w.heap.size, 0, none⟩ = some (.slice fA fn fc) := hP0.cell 0
  have x1 : W0.cell? ⟨w.heap.size, 1, none⟩ = some (.slice dA dn dc) := hP0.cell 1
  have x2 : W0.cell? ⟨w.heap.size, 2, none⟩ = some (.int .i64 en) := hP0.cell 2
  have HL0 := Lib.hid hl0
  clear hP0 hp0 hl0
  refine (callsIn_wide (n := 4)).1 ?_
  refine callsIn_of_wp_marks Try.func11 rfl trivial ?_ rfl
  simp only [Try.ntmps11, List.size_toArray, List.length_cons, List.length_nil, Nat.reduceAdd, Nat.reduceSub, Array.replicate_succ, Array.replicate_zero, List.push_toArray, List.append_toArray, List.nil_append, List.cons_append]
  gi_wp2_with (refine ⟨trivial, ?_⟩; gi_at_call 25; refine (callsIn_wide.2 (HFU.out W0)).mono ?_; rintro e w3 ⟨rfl, hI, hs3, hb3⟩; unfold itV; have HI := Lib.hid hI; have HS3 := Lib.hid hs3; have HB3 := Lib.hid hb3; clear hI hs3 hb3 x0 x1 x2 z0 z1 hW0)
  have hs3 := HS3.out
  have hs0 : W0.heap.size = w.heap.size + 3 := by rw [← HW0.out]; simp
  have HBW := Lib.hid (show Below w.heap.size w w3 from to_ HB0.out HB3.out)
  have hv3 : Blk w3 (w.heap.size + 2) 3 #[.int .i64 (stV s 2 (lastV []))] := by rw [hst0]; exact HL0.out.below HB3.out HL0.out.lt
  refine wpIn_rangeX rfl (by decide) (gf := 60) (lb := #[.pointer (some ⟨W0.heap.size + 2, 0, none⟩), .pointer (some ⟨W0.heap.size + 3, 0, none⟩), .pointer (some ⟨W0.heap.size + 4, 0, none⟩)]) rfl trivial (enters_of Try.func60 (by kernel_rfl) rfl) (HTL.out w3 W0.heap.size HI.out HBW.out) (Below.refl _ _) (fun _ => rfl)
    (fun k => k < w3.heap.size) (fun k h h' => by unfold Two at h; omega) (fun k h => trivial) (fun k h => trivial) (by unfold InIt; omega)
    (fun pre X => Blk X (w.heap.size + 2) 3 #[.int .i64 (stV s 2 (lastV pre))] ∧ Below w.heap.size w X ∧ w3.heap.size ≤ X.heap.size)
    (fun _ _ _ => False)
    (fun pre X Y ⟨h2, h3, h4⟩ hk => ⟨(hk.block _ (by show w.heap.size + 2 < w3.heap.size; omega) h2.lt).trans h2, h3.trans (hk.below (by omega) (fun k hk1 => by omega)), Nat.le_trans h4 hk.size⟩)
    (fun _ _ _ _ h _ _ => h)
    ⟨hv3, HBW.out, Nat.le_refl _⟩
    (fun x X => { tmps := #[.agg #[.slice fA fn fc, .slice dA dn dc, .int .i64 en], .agg #[.slice kA kn kc, .slice cA cn cc], .pointer (some ⟨w.heap.size, 0, none⟩), .pointer (some ⟨w.heap.size + 1, 0, none⟩), .int .i64 0, .pointer (some ⟨w.heap.size + 1 + 1, 0, none⟩), undef, .pointer (some ⟨X.heap.size, 0, none⟩), .agg #[.slice fA fn fc, .slice dA dn dc, .int .i64 en], .agg #[.slice kA kn kc, .slice cA cn cc], .func (.func 60) #[] #[.pointer (some ⟨W0.heap.size + 2, 0, none⟩), .pointer (some ⟨W0.heap.size + 3, 0, none⟩), .pointer (some ⟨W0.heap.size + 4, 0, none⟩)], .int .i64 (x : Int), .agg #[.int .i64 (stV s 2 x), .int .i64 (stV s 2 (x + 1))], undef, undef, undef], defers := [] })
    (fun x X => X.alloc (.cells #[.int .i64 (stV s 2 x), .int .i64 (stV s 2 (x + 1))] 65))
    (fun x X => (Keeps.refl _ X).alloc _) ?assign ?body ?done ?stop
  case assign =>
    intro l1 x X K hK
    clear hs3 hs0 hv3
    unfold spE
    gi_wp2
    exact hK
  case body =>
    rintro l1 pre x V0 X ⟨hrb, hbel, hsz⟩ hpre hsz2 hk hcl
    have c1 : X.cell? ⟨V0.heap.size, 1, none⟩ = some (.int .i64 (stV s 2 (x + 1))) := by rw [hcl]; exact (Blk.new V0 _ _).cell 1
    have hfr : X.frozen? ⟨w.heap.size + 1 + 1, 0, none⟩ = false := hrb.frozen 0
    have r0 : X.cell? ⟨w.heap.size + 1 + 1, 0, none⟩ = some (.int .i64 (stV s 2 (lastV pre))) := hrb.cell 0
    have HRB := Lib.hid hrb
    have HB9 := Lib.hid hbel
    clear hrb hbel hpre hk hcl hv3 hs0 hs3
    gi_wp2
    have hs3 := HS3.out
    have hs0 : W0.heap.size = w.heap.size + 3 := by rw [← HW0.out]; simp
    refine ⟨(Keeps.refl _ X).setCell (by unfold Two InIt; simp; omega) _, ?_, HB9.out.setCell (p := ⟨w.heap.size + 1 + 1, 0, none⟩) (by show w.heap.size ≤ w.heap.size + 2; omega) _, ?_⟩
    · have h9 := HRB.out.stored 0 (.int .i64 (stV s 2 (x + 1)))
      rw [lastV_put]
      exact h9
    · simpa [World.setCell] using hsz
  case done =>
    rintro X ⟨hrb, hbel, hsz⟩ hD
    have r0 : X.cell? ⟨w.heap.size + 1 + 1, 0, none⟩ = some (.int .i64 (stV s 2 (lastV (told s fn)))) := hrb.cell 0
    rw [HEND.out] at r0
    have HB9 := Lib.hid hbel
    clear hrb hbel hv3 hs0 hs3
    gi_wp2
    have hs3 := HS3.out
    have hs0 : W0.heap.size = w.heap.size + 3 := by rw [← HW0.out]; simp
    refine ⟨by simp, .inl ⟨_, _, rfl, run_takeDeferred hD, ?_⟩⟩
    refine ⟨_, results_tmp rfl _ _ _, rfl, ?_⟩
    exact HB9.out.trans ⟨rfl, rfl, rfl, by simp, fun k hk => World.putObj_heap_other (by omega)⟩
  case stop =>
    rintro ch pre X _ h _
    exact h.elim

set_option maxRecDepth 100000 in
set_option maxHeartbeats 4000000 in
theorem words_any (w : World) (P : Pgm) (hr : RdD w w.heap.size P) :
    Calls Try.prog 15 #[pgV P] w fun e w' => e = .returned (.int .i64 (wordsV P)) ∧ Below w.heap.size w w' := by
  have HFU := Lib.hid (fun W => datas_any29 W P hr.dn)
  have HTL := Lib.hid (fun W m (hI : ItD W m P) (hb : Below w.heap.size w W) => datas_tells 3 W m w.heap.size P hI (hr.below hb) hb.size)
  have HEND : Hid (stV (dzf P) 0 (lastV (told (dzf P) P.dn)) = wordsV P) := Lib.hid (stV_last (fun k hk => (dzf_in hr.wd k hk).1))
  obtain ⟨z, hz⟩ : ∃ z, wordsV P = z := ⟨_, rfl⟩
  rw [hz] at HEND ⊢
  obtain ⟨s, hs⟩ : ∃ s, dzf P = s := ⟨_, rfl⟩
  rw [hs] at HTL HEND
  have hst0 : stV s 0 (lastV []) = 0 := rfl
  clear hs hz hr
  obtain ⟨fA, fn, fc, fs, dA, dn, dc, ds, en, cs⟩ := P
  skip
  unfold pgV at HFU ⊢
  dsimp only at HFU HTL HEND ⊢
  obtain ⟨W0, hW0⟩ : ∃ W0, (w.alloc (.cells #[.slice fA fn fc, .slice dA dn dc, .int .i64 en] 30)).alloc (.cells #[.int .i64 0] 3) = W0 := ⟨_, rfl⟩
  have HW0 := Lib.hid hW0
  have HB0 := Lib.hid (show Below w.heap.size w W0 from by rw [← hW0]; exact to_ (alloc_ _ _) (alloc_ _ _))
  have hP0 : Blk W0 w.heap.size 30 #[.slice fA fn fc, .slice dA dn dc, .int .i64 en] := by rw [← hW0]; exact (Blk.new _ _ _).alloc _
  have hl0 : Blk W0 (w.heap.size + 1) 3 #[.int .i64 0] := by
    rw [← hW0]
    have := Blk.new (w.alloc (.cells #[.slice fA fn fc, .slice dA dn dc, .int .i64 en] 30)) 3 #[.int .i64 0]
    rwa [World.size_alloc] at this
  have x0 : W0.cell? ⟨w.heap.size, 0, none⟩ = some (.slice fA fn fc) := hP0.cell 0
  have x1 : W0.cell? ⟨w.heap.size, 1, none⟩ = some (.slice dA dn dc) := hP0.cell 1
  have x2 : W0.cell? ⟨w.heap.size, 2, none⟩ = some (.int .i64 en) := hP0.cell 2
  have HL0 := Lib.hid hl0
  clear hP0 hl0
  clear hW0
  rw [← HW0.out] at x0 x1 x2
  refine (callsIn_wide (n := 4)).1 ?_
  refine callsIn_of_wp_marks Try.func15 rfl trivial ?_ rfl
  simp only [Try.ntmps15, List.size_toArray, List.length_cons, List.length_nil, Nat.reduceAdd, Nat.reduceSub, Array.replicate_succ, Array.replicate_zero, List.push_toArray, List.append_toArray, List.nil_append, List.cons_append]
  gi_wp2_with (refine ⟨trivial, ?_⟩; gi_at_call 28; rw [HW0.out]; refine (callsIn_wide.2 (HFU.out W0)).mono ?_; rintro e w3 ⟨rfl, hI, hs3, hb3⟩; unfold itD; have HI := Lib.hid hI; have HS3 := Lib.hid hs3; have HB3 := Lib.hid hb3; clear hI hs3 hb3 x0 x1 x2)
  have hs3 := HS3.out
  have hs0 : W0.heap.size = w.heap.size + 2 := by rw [← HW0.out]; simp
  have HBW := Lib.hid (show Below w.heap.size w w3 from to_ HB0.out HB3.out)
  have hv3 : Blk w3 (w.heap.size + 1) 3 #[.int .i64 (stV s 0 (lastV []))] := by rw [hst0]; exact HL0.out.below HB3.out HL0.out.lt
  refine wpIn_rangeX rfl (by decide) (gf := 60) (lb := #[.pointer (some ⟨W0.heap.size + 1, 0, none⟩), .pointer (some ⟨W0.heap.size + 2, 0, none⟩), .pointer (some ⟨W0.heap.size + 3, 0, none⟩)]) rfl trivial (enters_of Try.func60 (by kernel_rfl) rfl) (HTL.out w3 W0.heap.size HI.out HBW.out) (Below.refl _ _) (fun _ => rfl)
    (fun k => k < w3.heap.size) (fun k h h' => by unfold Two at h; omega) (fun k h => trivial) (fun k h => trivial) (by unfold InIt; omega)
    (fun pre X => Blk X (w.heap.size + 1) 3 #[.int .i64 (stV s 0 (lastV pre))] ∧ Below w.heap.size w X ∧ w3.heap.size ≤ X.heap.size)
    (fun _ _ _ => False)
    (fun pre X Y ⟨h2, h3, h4⟩ hk => ⟨(hk.block _ (by show w.heap.size + 1 < w3.heap.size; omega) h2.lt).trans h2, h3.trans (hk.below (by omega) (fun k hk1 => by omega)), Nat.le_trans h4 hk.size⟩)
    (fun _ _ _ _ h _ _ => h)
    ⟨hv3, HBW.out, Nat.le_refl _⟩
    (fun x X => { tmps := #[.agg #[.slice fA fn fc, .slice dA dn dc, .int .i64 en], .pointer (some ⟨w.heap.size, 0, none⟩), .int .i64 0, .pointer (some ⟨w.heap.size + 1, 0, none⟩), undef, .pointer (some ⟨X.heap.size, 0, none⟩), .agg #[.slice fA fn fc, .slice dA dn dc, .int .i64 en], .func (.func 60) #[] #[.pointer (some ⟨W0.heap.size + 1, 0, none⟩), .pointer (some ⟨W0.heap.size + 2, 0, none⟩), .pointer (some ⟨W0.heap.size + 3, 0, none⟩)], .int .i64 (x : Int), .agg #[.int .i64 (stV s 0 x), .int .i64 (stV s 0 (x + 1))], undef, undef, undef], defers := [] })
    (fun x X => X.alloc (.cells #[.int .i64 (stV s 0 x), .int .i64 (stV s 0 (x + 1))] 65))
    (fun x X => (Keeps.refl _ X).alloc _) ?assign ?body ?done ?stop
  case assign =>
    intro l1 x X K hK
    clear hs3 hs0 hv3
    unfold spE
    gi_wp2
    exact hK
  case body =>
    rintro l1 pre x V0 X ⟨hrb, hbel, hsz⟩ hpre hsz2 hk hcl
    have c1 : X.cell? ⟨V0.heap.size, 1, none⟩ = some (.int .i64 (stV s 0 (x + 1))) := by rw [hcl]; exact (Blk.new V0 _ _).cell 1
    have hfr : X.frozen? ⟨w.heap.size + 1, 0, none⟩ = false := hrb.frozen 0
    have r0 : X.cell? ⟨w.heap.size + 1, 0, none⟩ = some (.int .i64 (stV s 0 (lastV pre))) := hrb.cell 0
    have HRB := Lib.hid hrb
    have HB9 := Lib.hid hbel
    clear hrb hbel hpre hk hcl hv3 hs0 hs3
    gi_wp2
    have hs3 := HS3.out
    have hs0 : W0.heap.size = w.heap.size + 2 := by rw [← HW0.out]; simp
    refine ⟨(Keeps.refl _ X).setCell (by unfold Two InIt; simp; omega) _, ?_, HB9.out.setCell (p := ⟨w.heap.size + 1, 0, none⟩) (by show w.heap.size ≤ w.heap.size + 1; omega) _, ?_⟩
    · have h9 := HRB.out.stored 0 (.int .i64 (stV s 0 (x + 1)))
      rw [lastV_put]
      exact h9
    · simpa [World.setCell] using hsz
  case done =>
    rintro X ⟨hrb, hbel, hsz⟩ hD
    have r0 : X.cell? ⟨w.heap.size + 1, 0, none⟩ = some (.int .i64 (stV s 0 (lastV (told s dn)))) := hrb.cell 0
    rw [HEND.out] at r0
    have HB9 := Lib.hid hbel
    clear hrb hbel hv3 hs0 hs3
    gi_wp2
    have hs3 := HS3.out
    have hs0 : W0.heap.size = w.heap.size + 2 := by rw [← HW0.out]; simp
    refine ⟨by simp, .inl ⟨_, _, rfl, run_takeDeferred hD, ?_⟩⟩
    refine ⟨_, results_tmp rfl _ _ _, rfl, ?_⟩
    exact HB9.out.trans ⟨rfl, rfl, rfl, by simp, fun k hk => World.putObj_heap_other (by omega)⟩
  case stop =>
    rintro ch pre X _ h _
    exact h.elim

def adA (P : Pgm) (pre : List Nat) : Array Value := arrN P.dn fun k => .int .i64 (if k ∈ pre then stV (dzf P) 0 k else 0)
theorem adA_set {P : Pgm} {pre : List Nat} (x : Nat) : (adA P pre).setIfInBounds x (.int .i64 (stV (dzf P) 0 x)) = adA P (pre ++ [x]) := by
  unfold adA
  rw [arrN_set]
  congr 1
  funext j
  by_cases h : j = x
  · subst h; simp
  · simp [h]

set_option maxRecDepth 100000 in
set_option maxHeartbeats 4000000 in
theorem addrs_any (w : World) (P : Pgm) (hr : RdD w w.heap.size P) :
    Calls Try.prog 13 #[pgV P] w fun e w' => ∃ A c, e = .returned (.slice A P.dn c) ∧ IL w' A P.dn c (addrsL P) ∧ Below w.heap.size w w' := by
  have hdn := hr.dn
  have hmk := make_ints P.dn hr.dn
  have HFU := Lib.hid (fun W => datas_any29 W P hr.dn)
  have HTL := Lib.hid (fun W m (hI : ItD W m P) (hb : Below w.heap.size w W) => datas_tells 3 W m w.heap.size P hI (hr.below hb) hb.size)
  have HTO := Lib.hid (fun pre x (h : pre ++ [x] <+: told (dzf P) P.dn) => (told_of h).1)
  have HSET := Lib.hid (fun pre => @adA_set P pre)
  have HEND : Hid (∀ W db, Blk W db 3 (adA P (told (dzf P) P.dn)) → IL W (some ⟨db, 0, none⟩) P.dn P.dn (addrsL P)) := Lib.hid (fun W db h => il_arr (by
    have e : adA P (told (dzf P) P.dn) = arrN P.dn fun k => .int .i64 (stV (dzf P) 0 k) := by
      unfold adA arrN
      congr 1
      refine List.map_congr_left fun k hk => ?_
      have hk := List.mem_range.1 hk
      rw [if_pos (mem_told.2 ⟨hk, dzf_pos P k⟩)]
    rw [← e]; exact h) hr.dn)
  have HSA : Hid (∀ pre x, x < P.dn → ∃ v, (adA P pre)[x]? = some v) := Lib.hid (fun pre x hx => ⟨_, arrN_at _ hx⟩)
  have HST0 : Hid (adA P [] = Array.replicate P.dn (.int .i64 0)) := Lib.hid (by rw [arrN_rep]; unfold adA; simp)
  obtain ⟨sA, hsA⟩ : ∃ sA, adA P = sA := ⟨_, rfl⟩
  rw [hsA] at HSET HEND HST0 HSA
  obtain ⟨s, hs⟩ : ∃ s, dzf P = s := ⟨_, rfl⟩
  rw [hs] at HTL HTO HSET HEND
  clear hsA hs hr
  obtain ⟨sl, hsl⟩ : ∃ sl, addrsL P = sl := ⟨_, rfl⟩
  rw [hsl] at HEND ⊢
  clear hsl
  obtain ⟨fA, fn, fc, fs, dA, dn, dc, ds, en, cs⟩ := P
  unfold pgV at HFU ⊢
  dsimp only at HFU HTL HTO HEND HST0 HSA hdn hmk ⊢
  obtain ⟨W0, hW0⟩ : ∃ W0, ((w.alloc (.cells #[.slice fA fn fc, .slice dA dn dc, .int .i64 en] 30)).alloc (.cells (Array.replicate dn (.int .i64 0)) 3)).alloc (.cells #[.slice (some ⟨w.heap.size + 1, 0, none⟩) dn dn] 24) = W0 := ⟨_, rfl⟩
  have HW0 := Lib.hid hW0
  have HB0 := Lib.hid (show Below w.heap.size w W0 from by rw [← hW0]; exact to_ (alloc_ _ _) (to_ (alloc_ _ _) (alloc_ _ _)))
  have hP0 : Blk W0 w.heap.size 30 #[.slice fA fn fc, .slice dA dn dc, .int .i64 en] := by rw [← hW0]; exact ((Blk.new _ _ _).alloc _).alloc _
  have hP9 : Blk (w.alloc (.cells #[.slice fA fn fc, .slice dA dn dc, .int .i64 en] 30)) w.heap.size 30 #[.slice fA fn fc, .slice dA dn dc, .int .i64 en] := Blk.new _ _ _
  have hr0 : Blk W0 (w.heap.size + 1) 3 (sA []) := by
    rw [← hW0, HST0.out]
    have := (Blk.new (w.alloc (.cells #[.slice fA fn fc, .slice dA dn dc, .int .i64 en] 30)) 3 (Array.replicate dn (.int .i64 0))).alloc (.cells #[.slice (some ⟨w.heap.size + 1, 0, none⟩) dn dn] 24)
    rwa [World.size_alloc] at this
  have hv0 : Blk W0 (w.heap.size + 2) 24 #[.slice (some ⟨w.heap.size + 1, 0, none⟩) dn dn] := by
    rw [← hW0]
    have := Blk.new ((w.alloc (.cells #[.slice fA fn fc, .slice dA dn dc, .int .i64 en] 30)).alloc (.cells (Array.replicate dn (.int .i64 0)) 3)) 24 #[.slice (some ⟨w.heap.size + 1, 0, none⟩) dn dn]
    rwa [World.size_alloc, World.size_alloc] at this
  have x0 : W0.cell? ⟨w.heap.size, 0, none⟩ = some (.slice fA fn fc) := hP0.cell 0
  have x1 : W0.cell? ⟨w.heap.size, 1, none⟩ = some (.slice dA dn dc) := hP0.cell 1
  have x2 : W0.cell? ⟨w.heap.size, 2, none⟩ = some (.int .i64 en) := hP0.cell 2
  have y1 : (w.alloc (.cells #[.slice fA fn fc, .slice dA dn dc, .int .i64 en] 30)).cell? ⟨w.heap.size, 1, none⟩ = some (.slice dA dn dc) := hP9.cell 1
  have HR0 := Lib.hid hr0
  have HV0 := Lib.hid hv0
  clear hP0 hr0 hv0 hP9
  refine (callsIn_wide (n := 4)).1 ?_
  refine callsIn_of_wp_marks Try.func13 rfl trivial ?_ rfl
  simp only [Try.ntmps13, List.size_toArray, List.length_cons, List.length_nil, Nat.reduceAdd, Nat.reduceSub, Array.replicate_succ, Array.replicate_zero, List.push_toArray, List.append_toArray, List.nil_append, List.cons_append]
  gi_wp2_with (refine ⟨trivial, ?_⟩; gi_at_call 28; refine (callsIn_wide.2 (HFU.out W0)).mono ?_; rintro e w3 ⟨rfl, hI, hs3, hb3⟩; unfold itD; have HI := Lib.hid hI; have HS3 := Lib.hid hs3; have HB3 := Lib.hid hb3; clear hI hs3 hb3 x0 x1 x2 y1 hW0 hmk)
  have hs3 := HS3.out
  have hs0 : W0.heap.size = w.heap.size + 3 := by rw [← HW0.out]; simp
  have HBW := Lib.hid (show Below w.heap.size w w3 from to_ HB0.out HB3.out)
  have hr3 : Blk w3 (w.heap.size + 1) 3 (sA []) := HR0.out.below HB3.out HR0.out.lt
  have hv3 : w3.cell? ⟨w.heap.size + 1 + 1, 0, none⟩ = some (.slice (some ⟨w.heap.size + 1, 0, none⟩) dn dn) := (HV0.out.below HB3.out HV0.out.lt).cell 0
  refine wpIn_rangeX rfl (by decide) (gf := 60) (lb := #[.pointer (some ⟨W0.heap.size + 1, 0, none⟩), .pointer (some ⟨W0.heap.size + 2, 0, none⟩), .pointer (some ⟨W0.heap.size + 3, 0, none⟩)]) rfl trivial (enters_of Try.func60 (by kernel_rfl) rfl) (HTL.out w3 W0.heap.size HI.out HBW.out) (Below.refl _ _) (fun _ => rfl)
    (fun k => k < w3.heap.size) (fun k h h' => by unfold Two at h; omega) (fun k h => trivial) (fun k h => trivial) (by unfold InIt; omega)
    (fun pre X => (X.cell? ⟨w.heap.size + 1 + 1, 0, none⟩ = some (.slice (some ⟨w.heap.size + 1, 0, none⟩) dn dn) ∧ Blk X (w.heap.size + 1) 3 (sA pre)) ∧ Below w.heap.size w X ∧ w3.heap.size ≤ X.heap.size)
    (fun _ _ _ => False)
    (fun pre X Y ⟨⟨h1, h2⟩, h3, h4⟩ hk => ⟨⟨hk.cell (by show w.heap.size + 1 + 1 < w3.heap.size; omega) h1, (hk.block _ (by show w.heap.size + 1 < w3.heap.size; omega) h2.lt).trans h2⟩, h3.trans (hk.below (by omega) (fun k hk1 => by omega)), Nat.le_trans h4 hk.size⟩)
    (fun _ _ _ _ h _ _ => h)
    ⟨⟨hv3, hr3⟩, HBW.out, Nat.le_refl _⟩
    (fun x X => { tmps := #[.agg #[.slice fA fn fc, .slice dA dn dc, .int .i64 en], .pointer (some ⟨w.heap.size, 0, none⟩), .slice none 0 0, .pointer (some ⟨w.heap.size + 1 + 1, 0, none⟩), .int .i64 (x : Int), .pointer (some ⟨X.heap.size, 0, none⟩), .pointer (some ⟨w.heap.size, 1, none⟩), .slice dA dn dc, .int .i64 (dn : Int), .slice (some ⟨w.heap.size + 1, 0, none⟩) dn dn, .agg #[.slice fA fn fc, .slice dA dn dc, .int .i64 en], .func (.func 60) #[] #[.pointer (some ⟨W0.heap.size + 1, 0, none⟩), .pointer (some ⟨W0.heap.size + 2, 0, none⟩), .pointer (some ⟨W0.heap.size + 3, 0, none⟩)], .int .i64 (x : Int), .agg #[.int .i64 (stV s 0 x), .int .i64 (stV s 0 (x + 1))], undef, undef, undef, undef, undef, undef], defers := [] })
    (fun x X => X.alloc (.cells #[.int .i64 (stV s 0 x), .int .i64 (stV s 0 (x + 1))] 65))
    (fun x X => (Keeps.refl _ X).alloc _) ?assign ?body ?done ?stop
  case assign =>
    intro l1 x X K hK
    clear hs3 hs0 hr3 hv3
    unfold spE
    gi_wp2
    exact hK
  case body =>
    rintro l1 pre x V0 X ⟨⟨hvb, hrb⟩, hbel, hsz⟩ hpre hsz2 hk hcl
    have hx0 : (0 : Int) ≤ (x : Int) := by omega
    have hxm := HTO.out pre x hpre
    have hxI : (x : Int) < (dn : Int) := by omega
    obtain ⟨v9, hv9⟩ := HSA.out pre x hxm
    have c0 : X.cell? ⟨V0.heap.size, 0, none⟩ = some (.int .i64 (stV s 0 x)) := by rw [hcl]; exact (Blk.new V0 _ _).cell 0
    have r0 : X.cell? ⟨w.heap.size + 1, x, none⟩ = some v9 := by rw [hrb.cell]; exact hv9
    have hfr : X.frozen? ⟨w.heap.size + 1, x, none⟩ = false := hrb.frozen x
    have HRB := Lib.hid hrb
    have HB9 := Lib.hid hbel
    have HSE := Lib.hid (HSET.out pre x)
    clear hrb hbel hpre hk hcl hr3 hv3 hs0 hs3
    gi_wp2
    have hs3 := HS3.out
    have hs0 : W0.heap.size = w.heap.size + 3 := by rw [← HW0.out]; simp
    refine ⟨(Keeps.refl _ X).setCell (by unfold Two InIt; simp; omega) _, ⟨?_, ?_⟩, HB9.out.setCell (p := ⟨w.heap.size + 1, x, none⟩) (by show w.heap.size ≤ w.heap.size + 1; omega) _, ?_⟩
    · rw [World.cell?_setCell_other _ _ _ _ (by simp <;> omega)]; exact hvb
    · rw [← HSE.out]; exact HRB.out.stored _ _
    · simpa [World.setCell] using hsz
  case done =>
    rintro X ⟨⟨hvb, hrb⟩, hbel, hsz⟩ hD
    have HRB := Lib.hid hrb
    have HB9 := Lib.hid hbel
    clear hrb hbel hr3 hv3 hs0 hs3
    gi_wp2
    have hs3 := HS3.out
    have hs0 : W0.heap.size = w.heap.size + 3 := by rw [← HW0.out]; simp
    refine ⟨by simp, .inl ⟨_, _, rfl, run_takeDeferred hD, ?_⟩⟩
    refine ⟨_, results_tmp rfl _ _ _, _, _, rfl, ?_, ?_⟩
    · exact HEND.out _ _ ((World.putObj_heap_other (by omega)).trans HRB.out)
    · exact HB9.out.trans ⟨rfl, rfl, rfl, by simp, fun k hk => World.putObj_heap_other (by omega)⟩
  case stop =>
    rintro ch pre X _ h _
    exact h.elim
end Go.Proofs.Ytbcabomblfehlab.Bo
