/-
 A REGION THAT DRAWS ITS ORDER IN A ROUND of a range over a function, of no program. WALK of layer 29: Fns: the program's.
-/
import Derived.Test.YtbcabomblfehlabZa
import Derived.Test.YtbcabomblfehlabUg
import Derived.Test.YtbcabomblfehlabQh
import Derived.Deep.RegionHeld3
import Derived.OrdersIn
import Derived.TacticsIn
namespace Go.Proofs.Ytbcabomblfehlab.Rf
open Go.RowKit
def noDefer (ops : Array Oper) : Bool := ops.all fun o => match o.op with | .defer _ => false | _ => true
theorem uponIn_of {P : Program} {l n : Nat} {o : Oper} {a : Act} {K : Act → World → Prop} {Q : Exit → Act → World → Prop} (r : Result Next) (h : o.upon P a K Q r) : o.uponIn (Fence.wide.inRound l) n P a K Q r := by
 match r, h with
 | .ok (.value _) _, h => exact h
 | .ok .skip _, h => exact h
 | .ok (.defer _) _, h => exact h
 | .ok (.enter f args) w', h =>
  refine ⟨fun e => (by cases e), CallsIn.inRound l (callsIn_wide.2 ?_)⟩
  exact h.mono fun e w'' he => by cases e <;> exact he
 | .ok (.row row args) w', h =>
  exact ⟨fun e => (by cases e), fun c cs _ => let ⟨v, w2, r, s⟩ := h c cs; ⟨v, w2, r, stepsIn_wide.2 s⟩⟩
 | .halt (.panic _) _, h => exact h
theorem opIn_of {P : Program} {l n i : Nat} {ops : Array Oper} (hd : noDefer ops = true) {a : Act} {w : World} {K : Act → World → Prop} {Q : Exit → Act → World → Prop} (h : wpOp P ops (Only Q) i K a w) : wpOpIn (Fence.wide.inRound l) n P ops (Only Q) i K a w := by
 unfold wpOp at h
 unfold wpOpIn
 split at h
 ·rename_i e; rw [e]; exact h
 ·rename_i o e
  rw [e]
  have hnd : ∀ c, o.op ≠ .defer c := fun c ec => by
   have := Array.all_eq_true_iff_forall_mem.1 hd o (Array.mem_of_getElem? e)
   rw [ec] at this; cases this
  simp only
  by_cases hw : Region.wanted o (yielded ops a.tmps) = true
  ·rw [if_pos hw] at h ⊢
   rcases h with h | ⟨_, a', w', h⟩
   ·refine ⟨fun _ _ => trivial, ?_⟩
    have : o.semAt (Fence.wide.inRound l).round a.eval = execOp a.eval o := Oper.semAt_some l _ _ hnd
    rw [this]
    exact uponIn_of _ h
   ·exact h.elim
  ·rw [if_neg hw] at h ⊢
   exact ⟨fun _ _ => trivial, h⟩
theorem anyIn_of {P : Program} {l n : Nat} {ops : Array Oper} (hd : noDefer ops = true) {Q : Exit → Act → World → Prop} : ∀ (f : Nat) (listed : Array Bool) (a : Act) (w : World), wpAny P .any ops (Only Q) f listed a w → wpAnyIn (Fence.wide.inRound l) n P .any ops (Only Q) f listed a w
 | 0, _, _, _, h => h
 | f + 1, _, _, _, h => ⟨h.1, fun i hi => opIn_of hd (wpOp_mono (fun a' w' h' => anyIn_of hd f _ a' w' h') (h.2 i hi))⟩
theorem wpIn_region_round {P : Program} {id l n : Nat} {ops : Array Oper} {S : World → Prop} {Q : Exit → Act → World → Prop} {a : Act} {w : World} (hm : P.follows .mixedOrders = true) (hd : noDefer ops = true)
  (h : wpAnyH P .any ops (Only Q) S ops.size (Array.replicate ops.size false) a w.drew) : (Code.region id ops true).wpIn (Fence.wide.inRound l) n P Q a w :=
 wpIn_mono (wpIn_region_any hm (anyIn_of hd _ _ _ _ (wpAny_of_held _ _ _ _ h))) Only.imp
end Go.Proofs.Ytbcabomblfehlab.Rf
namespace Go.Proofs.Ytbcabomblfehlab.Bo
open Go.RowKit Go.Maps
open Mem Rf By
attribute [local go_sem] Oper.semAt_some
set_option linter.unusedSimpArgs false
set_option linter.unusedVariables false
def FL (w : World) (A : Option Addr) (n c : Nat) (l : List F6) : Prop := Wd 6 encF6 w w.heap.size A n c l
theorem FL.on {w w' : World} {A : Option Addr} {n c : Nat} {l : List F6} (h : FL w A n c l) (hb : Below w.heap.size w w') : FL w' A n c l := (Wd.below h hb).more hb.size
theorem infoFn : (Try.prog.info? 44).map (fun i => (i.zero, i.size, i.bytes)) = some (some (.agg #[.int .i64 0, .int .i64 0, .int .i64 0, .int .i64 0, .int .i64 0, .int .i64 0]), 6, 48) := by kernel_rfl
/-- The cells of a program's function, all of them. -/
theorem fun_cells {w : World} {B : Nat} {A : Option Addr} {n c : Nat} {l : List Gf} (h : Wd 13 encGf w B A n c l) {i : Nat} (hi : i < n) :
  ∃ ad, A = some ad ∧ ad.block < B ∧ ∀ j u, (encGf (gfAt l i))[j]? = some u → (j = 0 → w.cell? (ad.add (i * 13)) = some u) ∧ (0 < j → w.cell? ⟨(ad.add (i * 13)).block, (ad.add (i * 13)).off + j, none⟩ = some u) := by
 obtain ⟨ad, e, hb, hc⟩ := h.2.2.2.2 i _ (gfAt_some (by rw [h.1]; exact hi))
 refine ⟨ad, e, hb, fun j u hu => ⟨fun h0 => ?_, fun h0 => ?_⟩⟩
 ·subst h0; exact hc 0 u hu
 ·rw [← add_field _ j h0]; exact hc j u hu
theorem fnsL_put {P : Pgm} {p : Pn} {pre : List Nat} (x : Nat) : ((pre ++ [x]).map (fnO P p)).flatMap encF6 = (pre.map (fnO P p)).flatMap encF6 ++ encF6 (fnO P p x) := by
 rw [List.map_append, List.flatMap_append]; simp
set_option maxRecDepth 100000 in
set_option maxHeartbeats 8000000 in
theorem fns_any (w : World) (P : Pgm) (p : Pn) (hr : RdF w w.heap.size P p) (hkk : ∀ a, a < P.fn → (gfAt P.fs a).F.kinds.2.1 ≤ 1000) :
  Calls Try.prog 18 #[pgV P, pnV p] w fun e w' => ∃ A c, e = .returned (.slice A (fnsL P p).length c) ∧ FL w' A (fnsL P p).length c (fnsL P p) ∧ Below w.heap.size w w' := by
 obtain ⟨iF, hiF, hzF0, hzF1, hzF2⟩ := info_split infoFn
 have hfn := hr.fn
 have HFU := Lib.hid (fun W => functions_any W P p hr.fn)
 have HTL := Lib.hid (fun W m (hI : ItF W m P p) (hb : Below w.heap.size w W) => functions_tells 3 W m w.heap.size P p hI (hr.below hb) hb.size)
 have HTO := Lib.hid (fun pre x (h : pre ++ [x] <+: told (szf P p) P.fn) => (told_of h).1)
 have HTN := Lib.hid (fun pre x (h : pre ++ [x] <+: told (szf P p) P.fn) => (show pre.length < P.fn from by
  have h1 := h.length_le
  have h2 := told_len (s := szf P p) (n := P.fn)
  rw [List.length_append, List.length_singleton] at h1; omega))
 have HIN := Lib.hid (fun k hk => stV_in (f := 2) (szf_in (p := p) hr.cd) k hk)
 have HCE := Lib.hid (fun W (hb : Below w.heap.size w W) k (hk : k < P.fn) => fun_cells (hr.fr.below hb) hk)
 have HCD := Lib.hid hr.cd
 have HKK := Lib.hid hkk
 have HPUT := Lib.hid (fun pre x => @fnsL_put P p pre x)
 have HFO : Hid (∀ k, encF6 (fnO P p k) = [.int .i64 ((gfAt P.fs k).file : Int), .int .i64 ((gfAt P.fs k).item : Int), .int .i64 (stV (szf P p) 2 k), .int .i64 (stV (szf P p) 2 (k + 1) - ((gfAt P.fs k).F.code.2.1 : Int)), .int .i64 (stV (szf P p) 2 (k + 1)), .int .i64 (frV (gfAt P.fs k).F)]) := Lib.hid (fun k => rfl)
 have HOWN : Hid (∀ W B v, W.ownsRow B 44 6 v (told (szf P p) P.fn).length (((told (szf P p) P.fn).map (fnO P p)).flatMap encF6) → ∃ A c, v = .slice A (fnsL P p).length c ∧ FL W A (fnsL P p).length c (fnsL P p)) := Lib.hid (fun W B v h => wd_own encF6_len (l := fnsL P p) rfl (by unfold fnsL; rw [List.length_map]; exact h))
 obtain ⟨fo, hfo⟩ : ∃ fo, fnO P p = fo := ⟨_, rfl⟩
 rw [hfo] at HPUT HFO HOWN
 obtain ⟨fl, hfl⟩ : ∃ fl, fnsL P p = fl := ⟨_, rfl⟩
 rw [hfl] at HOWN ⊢
 obtain ⟨s, hs⟩ : ∃ s, szf P p = s := ⟨_, rfl⟩
 rw [hs] at HTL HTO HTN HIN HFO HOWN
 clear hfo hfl hs hr hkk
 obtain ⟨fA, fn, fc, fs, dA, dn, dc, ds, en, cs⟩ := P
 obtain ⟨kA, kn, kc, ks, cA, cn, cc, cs2⟩ := p
 unfold pgV pnV at HFU ⊢
 dsimp only at HFU HTL HTO HTN HIN HCE HCD HKK HFO HOWN hfn ⊢
 obtain ⟨W0, hW0⟩ : ∃ W0, ((w.alloc (.cells #[.slice fA fn fc, .slice dA dn dc, .int .i64 en] 30)).alloc (.cells #[.slice kA kn kc, .slice cA cn cc] 26)).alloc (.cells #[.slice none 0 0] 40) = W0 := ⟨_, rfl⟩
 have HW0 := Lib.hid hW0
 have HB0 := Lib.hid (show Below w.heap.size w W0 from by rw [← hW0]; exact to_ (alloc_ _ _) (to_ (alloc_ _ _) (alloc_ _ _)))
 have hP0 : Blk W0 w.heap.size 30 #[.slice fA fn fc, .slice dA dn dc, .int .i64 en] := by rw [← hW0]; exact ((Blk.new _ _ _).alloc _).alloc _
 have hp0 : Blk W0 (w.heap.size + 1) 26 #[.slice kA kn kc, .slice cA cn cc] := by
  rw [← hW0]
  have := (Blk.new (w.alloc (.cells #[.slice fA fn fc, .slice dA dn dc, .int .i64 en] 30)) 26 #[.slice kA kn kc, .slice cA cn cc]).alloc (.cells #[.slice none 0 0] 40)
  rwa [World.size_alloc] at this
 have hl0 : Blk W0 (w.heap.size + 2) 40 #[.slice none 0 0] := by
  rw [← hW0]
  have := Blk.new ((w.alloc (.cells #[.slice fA fn fc, .slice dA dn dc, .int .i64 en] 30)).alloc (.cells #[.slice kA kn kc, .slice cA cn cc] 26)) 40 #[.slice none 0 0]
  rwa [World.size_alloc, World.size_alloc] at this
 have x0 : W0.cell? ⟨w.heap.size, 0, none⟩ = some (.slice fA fn fc) := hP0.cell 0
 have x1 : W0.cell? ⟨w.heap.size, 1, none⟩ = some (.slice dA dn dc) := hP0.cell 1
 have x2 : W0.cell? ⟨w.heap.size, 2, none⟩ = some (.int .i64 en) := hP0.cell 2
 have z0 : W0.cell? ⟨w.heap.size + 1, 0, none⟩ = some (.slice kA kn kc) := hp0.cell 0
 have z1 : W0.cell? ⟨w.heap.size + 1, 1, none⟩ = some (.slice cA cn cc) := hp0.cell 1
 have HL0 := Lib.hid hl0
 have HPB := Lib.hid hP0
 have HS0 := Lib.hid (show W0.heap.size = w.heap.size + 3 from by rw [← hW0]; simp)
 clear hP0 hp0 hl0
 refine (callsIn_wide (n := 4)).1 ?_
 refine callsIn_of_wp_marks Try.func18 rfl trivial ?_ rfl
 simp only [Try.ntmps18, List.size_toArray, List.length_cons, List.length_nil, Nat.reduceAdd, Nat.reduceSub, Array.replicate_succ, Array.replicate_zero, List.push_toArray, List.append_toArray, List.nil_append, List.cons_append]
 gi_wp2_with (refine ⟨trivial, ?_⟩; gi_at_call 25; refine (callsIn_wide.2 (HFU.out W0)).mono ?_; rintro e w3 ⟨rfl, hI, hs3, hb3⟩; unfold itV; have HI := Lib.hid hI; have HS3 := Lib.hid hs3; have HB3 := Lib.hid hb3; clear hI hs3 hb3 x0 x1 x2 z0 z1 hW0)
 have hs3 := HS3.out
 have hs0 : W0.heap.size = w.heap.size + 3 := by rw [← HW0.out]; simp
 have HBW := Lib.hid (show Below w.heap.size w w3 from to_ HB0.out HB3.out)
 have hv3 : Blk w3 (w.heap.size + 2) 40 #[.slice none 0 0] := HL0.out.below HB3.out HL0.out.lt
 have hp3 : w3.cell? ⟨w.heap.size, 0, none⟩ = some (.slice fA fn fc) := (HPB.out.below HB3.out HPB.out.lt).cell 0
 refine wpIn_rangeX rfl (by decide) (gf := 60) (lb := #[.pointer (some ⟨W0.heap.size + 2, 0, none⟩), .pointer (some ⟨W0.heap.size + 3, 0, none⟩), .pointer (some ⟨W0.heap.size + 4, 0, none⟩)]) rfl trivial (enters_of Try.func60 (by kernel_rfl) rfl) (HTL.out w3 W0.heap.size HI.out HBW.out) (Below.refl _ _) (fun _ => rfl)
  (fun k => ¬ Two w3.heap.size k) (fun k h h' => h' h) (fun k h => trivial) (fun k h => trivial) (by unfold InIt; omega)
  (fun pre X => (X.cell? ⟨w.heap.size, 0, none⟩ = some (.slice fA fn fc) ∧ ∃ v, Blk X (w.heap.size + 2) 40 #[v] ∧ X.ownsRow (w3.heap.size + 2) 44 6 v pre.length ((pre.map fo).flatMap encF6)) ∧ Below w.heap.size w X ∧ w3.heap.size ≤ X.heap.size)
  (fun _ _ _ => False)
  (fun pre X Y ⟨⟨h0, v, h1, h2⟩, h3, h4⟩ hk => ⟨⟨hk.cell (by show ¬ Two w3.heap.size w.heap.size; unfold Two; omega) h0, v, (hk.block _ (by unfold Two; omega) h1.lt).trans h1, own_keep1 h2 fun g hg hlt _ => hk.block g (by unfold Two; omega) hlt⟩, h3.trans (hk.below (by omega) (fun k hk1 => by unfold Two; omega)), Nat.le_trans h4 hk.size⟩)
  (fun _ _ _ _ h _ _ => h)
  ⟨⟨hp3, _, hv3, World.ownsRow_nil _ _ _ _⟩, HBW.out, Nat.le_refl _⟩
  (fun x X => { tmps := #[.agg #[.slice fA fn fc, .slice dA dn dc, .int .i64 en], .agg #[.slice kA kn kc, .slice cA cn cc], .pointer (some ⟨w.heap.size, 0, none⟩), .pointer (some ⟨w.heap.size + 1, 0, none⟩), .slice none 0 0, .pointer (some ⟨w.heap.size + 1 + 1, 0, none⟩), .int .i64 (x : Int), .pointer (some ⟨X.heap.size, 0, none⟩), undef, .agg #[.slice fA fn fc, .slice dA dn dc, .int .i64 en], .agg #[.slice kA kn kc, .slice cA cn cc], .func (.func 60) #[] #[.pointer (some ⟨W0.heap.size + 2, 0, none⟩), .pointer (some ⟨W0.heap.size + 3, 0, none⟩), .pointer (some ⟨W0.heap.size + 4, 0, none⟩)], .int .i64 (x : Int), .agg #[.int .i64 (stV s 2 x), .int .i64 (stV s 2 (x + 1))], undef, undef, undef, undef, undef, undef, undef, undef, undef, undef, undef, undef, undef, undef, undef, undef, undef, undef, undef, undef, undef, undef, undef, undef, undef, undef, undef, undef], defers := [] })
  (fun x X => X.alloc (.cells #[.int .i64 (stV s 2 x), .int .i64 (stV s 2 (x + 1))] 65))
  (fun x X => (Keeps.refl _ X).alloc _) ?assign ?body ?done ?stop
 case assign =>
  intro l1 x X K hK
  clear hs3 hs0 hv3 hp3
  unfold spE
  gi_wp2
  exact hK
 case body =>
  rintro l1 pre x V0 X ⟨⟨hpb, v, hvb, hrow⟩, hbel, hsz⟩ hpre hsz2 hk hcl
  have hx0 : (0 : Int) ≤ (x : Int) := by omega
  have hxm := HTO.out pre x hpre
  have hxI : (x : Int) < (fn : Int) := by omega
  have hin := HIN.out x (by omega)
  have hin2 := HIN.out (x + 1) (by omega)
  have hcd := HCD.out x hxm
  have hkk := HKK.out x hxm
  have HLN := Lib.hid (HTN.out pre x hpre)
  have HPU := Lib.hid (HPUT.out pre x)
  have hfo := HFO.out x
  obtain ⟨ad, hA, hab, hce⟩ := HCE.out X hbel x hxm
  obtain ⟨⟨fi, it, nm, ⟨cl, ⟨gA, gn, gc⟩, pd, no, fr, tt, ⟨lA, ln, lc⟩, ⟨oA, on, oc⟩, ⟨rA, rn, rc⟩⟩, ⟨qA, qn, qc⟩, zs⟩, hg⟩ : ∃ g, gfAt fs x = g := ⟨_, rfl⟩
  rw [hg] at hcd hkk hfo hce
  dsimp only at hcd hkk hfo hA
  subst hA
  have HFR := Lib.hid (fun W => frame_any ⟨cl, (gA, gn, gc), pd, no, fr, tt, (lA, ln, lc), (oA, on, oc), (rA, rn, rc)⟩ hkk W)
  unfold encFc slV at HFR
  dsimp only at HFR
  obtain ⟨frz, hfrz⟩ : ∃ z, frV ⟨cl, (gA, gn, gc), pd, no, fr, tt, (lA, ln, lc), (oA, on, oc), (rA, rn, rc)⟩ = z := ⟨_, rfl⟩
  rw [hfrz] at HFR hfo
  have hspb : Blk X V0.heap.size 65 #[.int .i64 (stV s 2 x), .int .i64 (stV s 2 (x + 1))] := (hk.block _ (by omega) (by simp)).trans (Blk.new V0 _ _)
  have c0 : X.cell? ⟨V0.heap.size, 0, none⟩ = some (.int .i64 (stV s 2 x)) := hspb.cell 0
  have c1 : X.cell? ⟨V0.heap.size, 1, none⟩ = some (.int .i64 (stV s 2 (x + 1))) := hspb.cell 1
  have HN1 := Lib.hid (show v.ownBlock ≠ some V0.heap.size from blk_not hspb hrow (by decide))
  have hV0 : V0.heap.size < X.heap.size := World.block_lt_of_cell? X _ c0
  have hbx : X.cell? ⟨w.heap.size + 1 + 1, 0, none⟩ = some v := hvb.cell 0
  have k0 : X.cell? (ad.add (x * 13)) = some (.int .i64 (fi : Int)) := (hce 0 _ rfl).1 rfl
  have k1 : X.cell? ⟨(ad.add (x * 13)).block, (ad.add (x * 13)).off + 1, none⟩ = some (.int .i64 (it : Int)) := (hce 1 _ rfl).2 (by omega)
  have k2 : X.cell? ⟨(ad.add (x * 13)).block, (ad.add (x * 13)).off + 2, none⟩ = some (.string nm) := (hce 2 _ rfl).2 (by omega)
  have k3 : X.cell? ⟨(ad.add (x * 13)).block, (ad.add (x * 13)).off + 3, none⟩ = some (.int .i64 cl) := (hce 3 _ rfl).2 (by omega)
  have k4 : X.cell? ⟨(ad.add (x * 13)).block, (ad.add (x * 13)).off + 4, none⟩ = some (.slice gA gn gc) := (hce 4 _ rfl).2 (by omega)
  have k5 : X.cell? ⟨(ad.add (x * 13)).block, (ad.add (x * 13)).off + 5, none⟩ = some (.int .i64 pd) := (hce 5 _ rfl).2 (by omega)
  have k6 : X.cell? ⟨(ad.add (x * 13)).block, (ad.add (x * 13)).off + 6, none⟩ = some (.bool no) := (hce 6 _ rfl).2 (by omega)
  have k7 : X.cell? ⟨(ad.add (x * 13)).block, (ad.add (x * 13)).off + 7, none⟩ = some (.int .i64 fr) := (hce 7 _ rfl).2 (by omega)
  have k8 : X.cell? ⟨(ad.add (x * 13)).block, (ad.add (x * 13)).off + 8, none⟩ = some (.int .i64 tt) := (hce 8 _ rfl).2 (by omega)
  have k9 : X.cell? ⟨(ad.add (x * 13)).block, (ad.add (x * 13)).off + 9, none⟩ = some (.slice lA ln lc) := (hce 9 _ rfl).2 (by omega)
  have k10 : X.cell? ⟨(ad.add (x * 13)).block, (ad.add (x * 13)).off + 10, none⟩ = some (.slice oA on oc) := (hce 10 _ rfl).2 (by omega)
  have k11 : X.cell? ⟨(ad.add (x * 13)).block, (ad.add (x * 13)).off + 11, none⟩ = some (.slice rA rn rc) := (hce 11 _ rfl).2 (by omega)
  have k12 : X.cell? ⟨(ad.add (x * 13)).block, (ad.add (x * 13)).off + 12, none⟩ = some (.slice qA qn qc) := (hce 12 _ rfl).2 (by omega)
  obtain ⟨x0, hx0'⟩ : ∃ z, stV s 2 x = z := ⟨_, rfl⟩
  obtain ⟨y0, hy0'⟩ : ∃ z, stV s 2 (x + 1) = z := ⟨_, rfl⟩
  rw [hx0'] at c0 hin hfo ⊢
  rw [hy0'] at c1 hin2 hfo ⊢
  have hsub : IntKind.i64.wrap (y0 - (on : Int)) = y0 - (on : Int) := IntWalk.i64_in _ (by omega)
  obtain ⟨X1, hX1⟩ : ∃ X1, X.alloc (.cells #[.int .i64 (fi : Int), .int .i64 (it : Int), .string nm, .int .i64 cl, .slice gA gn gc, .int .i64 pd, .bool no, .int .i64 fr, .int .i64 tt, .slice lA ln lc, .slice oA on oc, .slice rA rn rc, .slice qA qn qc] 75) = X1 := ⟨_, rfl⟩
  have HSB : Hid (Blk X1 X.heap.size 75 #[.int .i64 (fi : Int), .int .i64 (it : Int), .string nm, .int .i64 cl, .slice gA gn gc, .int .i64 pd, .bool no, .int .i64 fr, .int .i64 tt, .slice lA ln lc, .slice oA on oc, .slice rA rn rc, .slice qA qn qc]) := Lib.hid (by rw [← hX1]; exact Blk.new _ _ _)
  have HA1 := Lib.hid (show Below X.heap.size X X1 from by rw [← hX1]; exact alloc_ _ _)
  have HSX := Lib.hid (show X1.heap.size = X.heap.size + 1 from by rw [← hX1]; simp)
  have HVB := Lib.hid hvb
  have HRW := Lib.hid hrow
  have HB9 := Lib.hid hbel
  have HFQ := Lib.hid hfo
  have HN2 := Lib.hid (show v.ownBlock ≠ some X.heap.size from blk_not HSB.out (own_on hrow HA1.out) (by decide))
  have HC1 := Lib.hid (And.intro c0 c1)
  have HSZ := Lib.hid hsz
  have HPC := Lib.hid hpb
  have HV0 := Lib.hid (show w3.heap.size + 2 ≤ V0.heap.size ∧ V0.heap.size < X.heap.size ∧ W0.heap.size = w.heap.size + 3 ∧ w3.heap.size = W0.heap.size + 5 from ⟨hsz2, hV0, HS0.out, HS3.out⟩)
  clear hvb hrow hbel hpre hk hcl hce hin hin2 hcd hkk hfo hg hfrz hx0' hy0' hv3 hp3 hs0 hs3 hsz
  gi_wp2_with fail
  refine wpIn_region_round (S := fun W => W.cell? ⟨V0.heap.size, 0, none⟩ = some (.int .i64 x0) ∧ W.cell? ⟨V0.heap.size, 1, none⟩ = some (.int .i64 y0) ∧ W.cell? ⟨X.heap.size, 0, none⟩ = some (.int .i64 (fi : Int)) ∧ W.cell? ⟨X.heap.size, 1, none⟩ = some (.int .i64 (it : Int)) ∧ W.cell? ⟨X.heap.size, 2, none⟩ = some (.string nm) ∧ W.cell? ⟨X.heap.size, 3, none⟩ = some (.int .i64 cl) ∧ W.cell? ⟨X.heap.size, 4, none⟩ = some (.slice gA gn gc) ∧ W.cell? ⟨X.heap.size, 5, none⟩ = some (.int .i64 pd) ∧ W.cell? ⟨X.heap.size, 6, none⟩ = some (.bool no) ∧ W.cell? ⟨X.heap.size, 7, none⟩ = some (.int .i64 fr) ∧ W.cell? ⟨X.heap.size, 8, none⟩ = some (.int .i64 tt) ∧ W.cell? ⟨X.heap.size, 9, none⟩ = some (.slice lA ln lc) ∧ W.cell? ⟨X.heap.size, 10, none⟩ = some (.slice oA on oc) ∧ W.cell? ⟨X.heap.size, 11, none⟩ = some (.slice rA rn rc)) (by kernel_rfl) (by kernel_rfl) ?_
  have hHeld : X1.drew.cell? ⟨V0.heap.size, 0, none⟩ = some (.int .i64 x0) ∧ X1.drew.cell? ⟨V0.heap.size, 1, none⟩ = some (.int .i64 y0) ∧ X1.drew.cell? ⟨X.heap.size, 0, none⟩ = some (.int .i64 (fi : Int)) ∧ X1.drew.cell? ⟨X.heap.size, 1, none⟩ = some (.int .i64 (it : Int)) ∧ X1.drew.cell? ⟨X.heap.size, 2, none⟩ = some (.string nm) ∧ X1.drew.cell? ⟨X.heap.size, 3, none⟩ = some (.int .i64 cl) ∧ X1.drew.cell? ⟨X.heap.size, 4, none⟩ = some (.slice gA gn gc) ∧ X1.drew.cell? ⟨X.heap.size, 5, none⟩ = some (.int .i64 pd) ∧ X1.drew.cell? ⟨X.heap.size, 6, none⟩ = some (.bool no) ∧ X1.drew.cell? ⟨X.heap.size, 7, none⟩ = some (.int .i64 fr) ∧ X1.drew.cell? ⟨X.heap.size, 8, none⟩ = some (.int .i64 tt) ∧ X1.drew.cell? ⟨X.heap.size, 9, none⟩ = some (.slice lA ln lc) ∧ X1.drew.cell? ⟨X.heap.size, 10, none⟩ = some (.slice oA on oc) ∧ X1.drew.cell? ⟨X.heap.size, 11, none⟩ = some (.slice rA rn rc) := ⟨cell_on HC1.out.1 HA1.out.drew, cell_on HC1.out.2 HA1.out.drew, HSB.out.cell 0, HSB.out.cell 1, HSB.out.cell 2, HSB.out.cell 3, HSB.out.cell 4, HSB.out.cell 5, HSB.out.cell 6, HSB.out.cell 7, HSB.out.cell 8, HSB.out.cell 9, HSB.out.cell 10, HSB.out.cell 11⟩
  have bx : X1.drew.cell? ⟨w.heap.size + 1 + 1, 0, none⟩ = some v := (HVB.out.below HA1.out.drew HVB.out.lt).cell 0
  clear hX1 hpb hbx c0 c1 hspb k0 k1 k2 k3 k4 k5 k6 k7 k8 k9 k10 k11 k12
  refine tkZ 1 rfl hHeld ?_
  try simp only [Act.put, nmZ]
  refine tkZ 2 rfl hHeld ?_
  try simp only [Act.put, nmZ]
  refine tkZ 3 rfl hHeld ?_
  try simp only [Act.put, nmZ]
  refine tkZ 4 rfl hHeld ?_
  try simp only [Act.put, nmZ]
  refine tkZ 5 rfl hHeld ?_
  try simp only [Act.put, nmZ]
  refine tkZ 6 rfl hHeld ?_
  try simp only [Act.put, nmZ]
  refine tkZ 7 rfl hHeld ?_
  try simp only [Act.put, nmZ]
  refine tkZ 8 rfl hHeld ?_
  try simp only [Act.put, nmZ]
  refine tkZ 9 rfl hHeld ?_
  try simp only [Act.put, nmZ]
  refine tkZ 10 rfl hHeld ?_
  try simp only [Act.put, nmZ]
  refine tkZ 11 rfl hHeld ?_
  try simp only [Act.put, nmZ]
  refine tkZ 12 rfl hHeld ?_
  try simp only [Act.put, nmZ]
  refine tkZ 13 rfl hHeld ?_
  try simp only [Act.put, nmZ]
  refine tkZ 14 rfl hHeld ?_
  try simp only [Act.put, nmZ]
  refine tkZ 15 rfl hHeld ?_
  try simp only [Act.put, nmZ]
  refine tkZ 16 rfl hHeld ?_
  try simp only [Act.put, nmZ]
  refine tkZ 17 rfl hHeld ?_
  try simp only [Act.put, nmZ]
  refine wpAnyH_ready (rs := [0, 18]) (by kernel_rfl) (by simp) ?_
  refine AllReadyH.cons rfl (fun K hK => ?_) (AllReadyH.cons rfl (fun K hK => ?_) AllReadyH.nil)
  ·go_simp
   refine hK.out _ _ (hHeld) ?_
   clear hK K hHeld
   intro hHeld
   try simp only [Act.put, nmZ]
   refine wpAnyH_ready (rs := [18]) (by kernel_rfl) (by simp) ?_
   refine AllReadyH.cons rfl (fun K hK => ?_) AllReadyH.nil
   go_simp
   refine (HFR.out _).mono ?_; rintro e w4 ⟨rfl, hb4⟩; have HU := Lib.hid hb4; clear hb4
   have HW4 := Lib.hid (show Below X.heap.size X w4 from to_ HA1.out.drew HU.out)
   clear bx
   have bx : w4.cell? ⟨w.heap.size + 1 + 1, 0, none⟩ = some v := (HVB.out.below HW4.out HVB.out.lt).cell 0
   try go_wp2_with fail
   refine hK.out _ _ (⟨cell_on hHeld.1 HU.out, cell_on hHeld.2.1 HU.out, cell_on hHeld.2.2.1 HU.out, cell_on hHeld.2.2.2.1 HU.out, cell_on hHeld.2.2.2.2.1 HU.out, cell_on hHeld.2.2.2.2.2.1 HU.out, cell_on hHeld.2.2.2.2.2.2.1 HU.out, cell_on hHeld.2.2.2.2.2.2.2.1 HU.out, cell_on hHeld.2.2.2.2.2.2.2.2.1 HU.out, cell_on hHeld.2.2.2.2.2.2.2.2.2.1 HU.out, cell_on hHeld.2.2.2.2.2.2.2.2.2.2.1 HU.out, cell_on hHeld.2.2.2.2.2.2.2.2.2.2.2.1 HU.out, cell_on hHeld.2.2.2.2.2.2.2.2.2.2.2.2.1 HU.out, cell_on hHeld.2.2.2.2.2.2.2.2.2.2.2.2.2 HU.out⟩) ?_
   clear hK K hHeld
   intro hHeld
   try simp only [Act.put, nmZ]
   refine tkZ 19 rfl hHeld ?_
   try simp only [Act.put, nmZ]
   refine wpAnyH_ready (rs := [20]) (by kernel_rfl) (by simp) ?_
   refine AllReadyH.cons rfl (fun K hK => ?_) AllReadyH.nil
   go_simp
   have HN9 := Lib.hid (alloc_ w4 (.cells #[.int .i64 (fi : Int), .int .i64 (it : Int), .int .i64 x0, .int .i64 (y0 - (on : Int)), .int .i64 y0, .int .i64 frz] 44))
   clear bx
   have bx : (w4.alloc (.cells #[.int .i64 (fi : Int), .int .i64 (it : Int), .int .i64 x0, .int .i64 (y0 - (on : Int)), .int .i64 y0, .int .i64 frz] 44)).cell? ⟨w.heap.size + 1 + 1, 0, none⟩ = some v := (HVB.out.below (to_ HW4.out HN9.out) HVB.out.lt).cell 0
   refine hK.out _ _ (⟨cell_on hHeld.1 HN9.out, cell_on hHeld.2.1 HN9.out, cell_on hHeld.2.2.1 HN9.out, cell_on hHeld.2.2.2.1 HN9.out, cell_on hHeld.2.2.2.2.1 HN9.out, cell_on hHeld.2.2.2.2.2.1 HN9.out, cell_on hHeld.2.2.2.2.2.2.1 HN9.out, cell_on hHeld.2.2.2.2.2.2.2.1 HN9.out, cell_on hHeld.2.2.2.2.2.2.2.2.1 HN9.out, cell_on hHeld.2.2.2.2.2.2.2.2.2.1 HN9.out, cell_on hHeld.2.2.2.2.2.2.2.2.2.2.1 HN9.out, cell_on hHeld.2.2.2.2.2.2.2.2.2.2.2.1 HN9.out, cell_on hHeld.2.2.2.2.2.2.2.2.2.2.2.2.1 HN9.out, cell_on hHeld.2.2.2.2.2.2.2.2.2.2.2.2.2 HN9.out⟩) ?_
   clear hK K hHeld
   intro hHeld
   try simp only [Act.put, nmZ]
   refine wpAnyH_ready (rs := [21]) (by kernel_rfl) (by simp) ?_
   refine AllReadyH.cons rfl (fun K hK => ?_) AllReadyH.nil
   have KH := hHeld
   clear bx
   refine step_append_own rfl _ _ 40 rfl (w3.heap.size + 2) 44 iF (.agg #[.int .i64 0, .int .i64 0, .int .i64 0, .int .i64 0, .int .i64 0, .int .i64 0]) 6 48 Try.underlying40 hiF hzF0 hzF1 hzF2 rfl (by decide) v pre.length ((pre.map fo).flatMap encF6) rfl (own_on HRW.out (to_ HW4.out (alloc_ _ _))) ⟨w4.heap.size, 0, none⟩ 1 [.int .i64 (fi : Int), .int .i64 (it : Int), .int .i64 x0, .int .i64 (y0 - (on : Int)), .int .i64 y0, .int .i64 frz] rfl rfl (cells_new w4 _ _) (by simp [Value.oneCell']) (by unfold maxLen; have := HLN.out; omega) (by have := HLN.out; omega) (by have := HW4.out.size; have := HSZ.out; have := HSX.out; have := HU.out.size; simp; omega) ?_
   intro v' w6 h2 h3
   obtain ⟨nA, nc, rfl⟩ := own_form h2
   have hno : v.ownBlock ≠ some (w.heap.size + 2) := own_ne HRW.out (by have := HS3.out; have := HS0.out; omega)
   have hvb6 : Blk w6 (w.heap.size + 2) 40 #[v] := blk_grown (HVB.out.below (to_ HW4.out (alloc_ _ _)) HVB.out.lt) h3 hno
   have e0 : w6.cell? ⟨w.heap.size + 1 + 1, 0, none⟩ = some v := hvb6.cell 0
   have g0 : w6.frozen? ⟨w.heap.size + 1 + 1, 0, none⟩ = false := hvb6.frozen 0
   have h6 : w6.cell? ⟨V0.heap.size, 0, none⟩ = some (.int .i64 x0) ∧ w6.cell? ⟨V0.heap.size, 1, none⟩ = some (.int .i64 y0) ∧ w6.cell? ⟨X.heap.size, 0, none⟩ = some (.int .i64 (fi : Int)) ∧ w6.cell? ⟨X.heap.size, 1, none⟩ = some (.int .i64 (it : Int)) ∧ w6.cell? ⟨X.heap.size, 2, none⟩ = some (.string nm) ∧ w6.cell? ⟨X.heap.size, 3, none⟩ = some (.int .i64 cl) ∧ w6.cell? ⟨X.heap.size, 4, none⟩ = some (.slice gA gn gc) ∧ w6.cell? ⟨X.heap.size, 5, none⟩ = some (.int .i64 pd) ∧ w6.cell? ⟨X.heap.size, 6, none⟩ = some (.bool no) ∧ w6.cell? ⟨X.heap.size, 7, none⟩ = some (.int .i64 fr) ∧ w6.cell? ⟨X.heap.size, 8, none⟩ = some (.int .i64 tt) ∧ w6.cell? ⟨X.heap.size, 9, none⟩ = some (.slice lA ln lc) ∧ w6.cell? ⟨X.heap.size, 10, none⟩ = some (.slice oA on oc) ∧ w6.cell? ⟨X.heap.size, 11, none⟩ = some (.slice rA rn rc) := ⟨cell_step KH.1 h3 HN1.out, cell_step KH.2.1 h3 HN1.out, cell_step KH.2.2.1 h3 HN2.out, cell_step KH.2.2.2.1 h3 HN2.out, cell_step KH.2.2.2.2.1 h3 HN2.out, cell_step KH.2.2.2.2.2.1 h3 HN2.out, cell_step KH.2.2.2.2.2.2.1 h3 HN2.out, cell_step KH.2.2.2.2.2.2.2.1 h3 HN2.out, cell_step KH.2.2.2.2.2.2.2.2.1 h3 HN2.out, cell_step KH.2.2.2.2.2.2.2.2.2.1 h3 HN2.out, cell_step KH.2.2.2.2.2.2.2.2.2.2.1 h3 HN2.out, cell_step KH.2.2.2.2.2.2.2.2.2.2.2.1 h3 HN2.out, cell_step KH.2.2.2.2.2.2.2.2.2.2.2.2.1 h3 HN2.out, cell_step KH.2.2.2.2.2.2.2.2.2.2.2.2.2 h3 HN2.out⟩
   have HK6 := Lib.hid h6
   have H2 := Lib.hid h2
   have H3 := Lib.hid h3
   have HVB6 := Lib.hid hvb6
   clear h2 h3 KH hno hvb6
   refine hK.out _ _ (h6) ?_
   clear hK K hHeld
   intro hHeld
   try simp only [Act.put, nmZ]
   clear h6
   refine wpAnyH_ready (rs := [22]) (by kernel_rfl) (by simp) ?_
   refine AllReadyH.cons rfl (fun K hK => ?_) AllReadyH.nil
   go_simp
   refine hK.out _ _ (⟨cell_far HK6.out.1 (by show V0.heap.size ≠ w.heap.size + 1 + 1; have := HV0.out; omega), cell_far HK6.out.2.1 (by show V0.heap.size ≠ w.heap.size + 1 + 1; have := HV0.out; omega), cell_far HK6.out.2.2.1 (by show X.heap.size ≠ w.heap.size + 1 + 1; have := HV0.out; omega), cell_far HK6.out.2.2.2.1 (by show X.heap.size ≠ w.heap.size + 1 + 1; have := HV0.out; omega), cell_far HK6.out.2.2.2.2.1 (by show X.heap.size ≠ w.heap.size + 1 + 1; have := HV0.out; omega), cell_far HK6.out.2.2.2.2.2.1 (by show X.heap.size ≠ w.heap.size + 1 + 1; have := HV0.out; omega), cell_far HK6.out.2.2.2.2.2.2.1 (by show X.heap.size ≠ w.heap.size + 1 + 1; have := HV0.out; omega), cell_far HK6.out.2.2.2.2.2.2.2.1 (by show X.heap.size ≠ w.heap.size + 1 + 1; have := HV0.out; omega), cell_far HK6.out.2.2.2.2.2.2.2.2.1 (by show X.heap.size ≠ w.heap.size + 1 + 1; have := HV0.out; omega), cell_far HK6.out.2.2.2.2.2.2.2.2.2.1 (by show X.heap.size ≠ w.heap.size + 1 + 1; have := HV0.out; omega), cell_far HK6.out.2.2.2.2.2.2.2.2.2.2.1 (by show X.heap.size ≠ w.heap.size + 1 + 1; have := HV0.out; omega), cell_far HK6.out.2.2.2.2.2.2.2.2.2.2.2.1 (by show X.heap.size ≠ w.heap.size + 1 + 1; have := HV0.out; omega), cell_far HK6.out.2.2.2.2.2.2.2.2.2.2.2.2.1 (by show X.heap.size ≠ w.heap.size + 1 + 1; have := HV0.out; omega), cell_far HK6.out.2.2.2.2.2.2.2.2.2.2.2.2.2 (by show X.heap.size ≠ w.heap.size + 1 + 1; have := HV0.out; omega)⟩) ?_
   clear hK K hHeld
   intro hHeld
   try simp only [Act.put, nmZ]
   refine wpAnyH_done (by kernel_rfl) ?_ _
   dsimp only [Only]
   clear e0 g0
   gi_wp2
   have hs3 := HS3.out
   have hs0 := HS0.out
   have hbX : Below w.heap.size w w6 := (to_ HB9.out (to_ HW4.out (alloc_ _ _))).grown H3.out (to_ HB9.out (to_ HW4.out (alloc_ _ _))).size fun r e => by have := HRW.out.lt r e; omega
   have hkX : Keeps (fun k => InIt w.heap.size W0.heap.size 5 k ∨ Two w3.heap.size k) X w6 := (Keeps.of_below (to_ HW4.out (alloc_ _ _)) (fun k _ hlt => hlt)).grown H3.out fun r e hr => by have := HRW.out.lt r e; unfold InIt Two at hr; omega
   refine ⟨hkX.setCell (by unfold Two InIt; simp; omega) _, ⟨?_, .slice nA (pre.length + 1) nc, ?_, ?_⟩, hbX.setCell (p := ⟨w.heap.size + 1 + 1, 0, none⟩) (by show w.heap.size ≤ w.heap.size + 1 + 1; omega) _, ?_⟩
   ·rw [World.cell?_setCell_other _ _ _ _ (by simp <;> omega)]; exact cell_step (cell_on HPC.out (to_ HW4.out (alloc_ _ _))) H3.out (own_ne HRW.out (by show w.heap.size < _; omega))
   ·exact HVB6.out.stored 0 _
   ·rw [HPU.out, HFQ.out, List.length_append]; exact own_cell H2.out _ _ (by show w.heap.size + 1 + 1 < _; omega)
   ·have h1 := hkX.size; have h2 := HSZ.out; simp [World.setCell]; omega
  ·go_simp
   refine (HFR.out _).mono ?_; rintro e w4 ⟨rfl, hb4⟩; have HU := Lib.hid hb4; clear hb4
   have HW4 := Lib.hid (show Below X.heap.size X w4 from to_ HA1.out.drew HU.out)
   clear bx
   have bx : w4.cell? ⟨w.heap.size + 1 + 1, 0, none⟩ = some v := (HVB.out.below HW4.out HVB.out.lt).cell 0
   try go_wp2_with fail
   refine hK.out _ _ (⟨cell_on hHeld.1 HU.out, cell_on hHeld.2.1 HU.out, cell_on hHeld.2.2.1 HU.out, cell_on hHeld.2.2.2.1 HU.out, cell_on hHeld.2.2.2.2.1 HU.out, cell_on hHeld.2.2.2.2.2.1 HU.out, cell_on hHeld.2.2.2.2.2.2.1 HU.out, cell_on hHeld.2.2.2.2.2.2.2.1 HU.out, cell_on hHeld.2.2.2.2.2.2.2.2.1 HU.out, cell_on hHeld.2.2.2.2.2.2.2.2.2.1 HU.out, cell_on hHeld.2.2.2.2.2.2.2.2.2.2.1 HU.out, cell_on hHeld.2.2.2.2.2.2.2.2.2.2.2.1 HU.out, cell_on hHeld.2.2.2.2.2.2.2.2.2.2.2.2.1 HU.out, cell_on hHeld.2.2.2.2.2.2.2.2.2.2.2.2.2 HU.out⟩) ?_
   clear hK K hHeld
   intro hHeld
   try simp only [Act.put, nmZ]
   refine tkZ 19 rfl hHeld ?_
   try simp only [Act.put, nmZ]
   refine wpAnyH_ready (rs := [0, 20]) (by kernel_rfl) (by simp) ?_
   refine AllReadyH.cons rfl (fun K hK => ?_) (AllReadyH.cons rfl (fun K hK => ?_) AllReadyH.nil)
   ·go_simp
    refine hK.out _ _ (hHeld) ?_
    clear hK K hHeld
    intro hHeld
    try simp only [Act.put, nmZ]
    refine wpAnyH_ready (rs := [20]) (by kernel_rfl) (by simp) ?_
    refine AllReadyH.cons rfl (fun K hK => ?_) AllReadyH.nil
    go_simp
    have HN9 := Lib.hid (alloc_ w4 (.cells #[.int .i64 (fi : Int), .int .i64 (it : Int), .int .i64 x0, .int .i64 (y0 - (on : Int)), .int .i64 y0, .int .i64 frz] 44))
    clear bx
    have bx : (w4.alloc (.cells #[.int .i64 (fi : Int), .int .i64 (it : Int), .int .i64 x0, .int .i64 (y0 - (on : Int)), .int .i64 y0, .int .i64 frz] 44)).cell? ⟨w.heap.size + 1 + 1, 0, none⟩ = some v := (HVB.out.below (to_ HW4.out HN9.out) HVB.out.lt).cell 0
    refine hK.out _ _ (⟨cell_on hHeld.1 HN9.out, cell_on hHeld.2.1 HN9.out, cell_on hHeld.2.2.1 HN9.out, cell_on hHeld.2.2.2.1 HN9.out, cell_on hHeld.2.2.2.2.1 HN9.out, cell_on hHeld.2.2.2.2.2.1 HN9.out, cell_on hHeld.2.2.2.2.2.2.1 HN9.out, cell_on hHeld.2.2.2.2.2.2.2.1 HN9.out, cell_on hHeld.2.2.2.2.2.2.2.2.1 HN9.out, cell_on hHeld.2.2.2.2.2.2.2.2.2.1 HN9.out, cell_on hHeld.2.2.2.2.2.2.2.2.2.2.1 HN9.out, cell_on hHeld.2.2.2.2.2.2.2.2.2.2.2.1 HN9.out, cell_on hHeld.2.2.2.2.2.2.2.2.2.2.2.2.1 HN9.out, cell_on hHeld.2.2.2.2.2.2.2.2.2.2.2.2.2 HN9.out⟩) ?_
    clear hK K hHeld
    intro hHeld
    try simp only [Act.put, nmZ]
    refine wpAnyH_ready (rs := [21]) (by kernel_rfl) (by simp) ?_
    refine AllReadyH.cons rfl (fun K hK => ?_) AllReadyH.nil
    have KH := hHeld
    clear bx
    refine step_append_own rfl _ _ 40 rfl (w3.heap.size + 2) 44 iF (.agg #[.int .i64 0, .int .i64 0, .int .i64 0, .int .i64 0, .int .i64 0, .int .i64 0]) 6 48 Try.underlying40 hiF hzF0 hzF1 hzF2 rfl (by decide) v pre.length ((pre.map fo).flatMap encF6) rfl (own_on HRW.out (to_ HW4.out (alloc_ _ _))) ⟨w4.heap.size, 0, none⟩ 1 [.int .i64 (fi : Int), .int .i64 (it : Int), .int .i64 x0, .int .i64 (y0 - (on : Int)), .int .i64 y0, .int .i64 frz] rfl rfl (cells_new w4 _ _) (by simp [Value.oneCell']) (by unfold maxLen; have := HLN.out; omega) (by have := HLN.out; omega) (by have := HW4.out.size; have := HSZ.out; have := HSX.out; have := HU.out.size; simp; omega) ?_
    intro v' w6 h2 h3
    obtain ⟨nA, nc, rfl⟩ := own_form h2
    have hno : v.ownBlock ≠ some (w.heap.size + 2) := own_ne HRW.out (by have := HS3.out; have := HS0.out; omega)
    have hvb6 : Blk w6 (w.heap.size + 2) 40 #[v] := blk_grown (HVB.out.below (to_ HW4.out (alloc_ _ _)) HVB.out.lt) h3 hno
    have e0 : w6.cell? ⟨w.heap.size + 1 + 1, 0, none⟩ = some v := hvb6.cell 0
    have g0 : w6.frozen? ⟨w.heap.size + 1 + 1, 0, none⟩ = false := hvb6.frozen 0
    have h6 : w6.cell? ⟨V0.heap.size, 0, none⟩ = some (.int .i64 x0) ∧ w6.cell? ⟨V0.heap.size, 1, none⟩ = some (.int .i64 y0) ∧ w6.cell? ⟨X.heap.size, 0, none⟩ = some (.int .i64 (fi : Int)) ∧ w6.cell? ⟨X.heap.size, 1, none⟩ = some (.int .i64 (it : Int)) ∧ w6.cell? ⟨X.heap.size, 2, none⟩ = some (.string nm) ∧ w6.cell? ⟨X.heap.size, 3, none⟩ = some (.int .i64 cl) ∧ w6.cell? ⟨X.heap.size, 4, none⟩ = some (.slice gA gn gc) ∧ w6.cell? ⟨X.heap.size, 5, none⟩ = some (.int .i64 pd) ∧ w6.cell? ⟨X.heap.size, 6, none⟩ = some (.bool no) ∧ w6.cell? ⟨X.heap.size, 7, none⟩ = some (.int .i64 fr) ∧ w6.cell? ⟨X.heap.size, 8, none⟩ = some (.int .i64 tt) ∧ w6.cell? ⟨X.heap.size, 9, none⟩ = some (.slice lA ln lc) ∧ w6.cell? ⟨X.heap.size, 10, none⟩ = some (.slice oA on oc) ∧ w6.cell? ⟨X.heap.size, 11, none⟩ = some (.slice rA rn rc) := ⟨cell_step KH.1 h3 HN1.out, cell_step KH.2.1 h3 HN1.out, cell_step KH.2.2.1 h3 HN2.out, cell_step KH.2.2.2.1 h3 HN2.out, cell_step KH.2.2.2.2.1 h3 HN2.out, cell_step KH.2.2.2.2.2.1 h3 HN2.out, cell_step KH.2.2.2.2.2.2.1 h3 HN2.out, cell_step KH.2.2.2.2.2.2.2.1 h3 HN2.out, cell_step KH.2.2.2.2.2.2.2.2.1 h3 HN2.out, cell_step KH.2.2.2.2.2.2.2.2.2.1 h3 HN2.out, cell_step KH.2.2.2.2.2.2.2.2.2.2.1 h3 HN2.out, cell_step KH.2.2.2.2.2.2.2.2.2.2.2.1 h3 HN2.out, cell_step KH.2.2.2.2.2.2.2.2.2.2.2.2.1 h3 HN2.out, cell_step KH.2.2.2.2.2.2.2.2.2.2.2.2.2 h3 HN2.out⟩
    have HK6 := Lib.hid h6
    have H2 := Lib.hid h2
    have H3 := Lib.hid h3
    have HVB6 := Lib.hid hvb6
    clear h2 h3 KH hno hvb6
    refine hK.out _ _ (h6) ?_
    clear hK K hHeld
    intro hHeld
    try simp only [Act.put, nmZ]
    clear h6
    refine wpAnyH_ready (rs := [22]) (by kernel_rfl) (by simp) ?_
    refine AllReadyH.cons rfl (fun K hK => ?_) AllReadyH.nil
    go_simp
    refine hK.out _ _ (⟨cell_far HK6.out.1 (by show V0.heap.size ≠ w.heap.size + 1 + 1; have := HV0.out; omega), cell_far HK6.out.2.1 (by show V0.heap.size ≠ w.heap.size + 1 + 1; have := HV0.out; omega), cell_far HK6.out.2.2.1 (by show X.heap.size ≠ w.heap.size + 1 + 1; have := HV0.out; omega), cell_far HK6.out.2.2.2.1 (by show X.heap.size ≠ w.heap.size + 1 + 1; have := HV0.out; omega), cell_far HK6.out.2.2.2.2.1 (by show X.heap.size ≠ w.heap.size + 1 + 1; have := HV0.out; omega), cell_far HK6.out.2.2.2.2.2.1 (by show X.heap.size ≠ w.heap.size + 1 + 1; have := HV0.out; omega), cell_far HK6.out.2.2.2.2.2.2.1 (by show X.heap.size ≠ w.heap.size + 1 + 1; have := HV0.out; omega), cell_far HK6.out.2.2.2.2.2.2.2.1 (by show X.heap.size ≠ w.heap.size + 1 + 1; have := HV0.out; omega), cell_far HK6.out.2.2.2.2.2.2.2.2.1 (by show X.heap.size ≠ w.heap.size + 1 + 1; have := HV0.out; omega), cell_far HK6.out.2.2.2.2.2.2.2.2.2.1 (by show X.heap.size ≠ w.heap.size + 1 + 1; have := HV0.out; omega), cell_far HK6.out.2.2.2.2.2.2.2.2.2.2.1 (by show X.heap.size ≠ w.heap.size + 1 + 1; have := HV0.out; omega), cell_far HK6.out.2.2.2.2.2.2.2.2.2.2.2.1 (by show X.heap.size ≠ w.heap.size + 1 + 1; have := HV0.out; omega), cell_far HK6.out.2.2.2.2.2.2.2.2.2.2.2.2.1 (by show X.heap.size ≠ w.heap.size + 1 + 1; have := HV0.out; omega), cell_far HK6.out.2.2.2.2.2.2.2.2.2.2.2.2.2 (by show X.heap.size ≠ w.heap.size + 1 + 1; have := HV0.out; omega)⟩) ?_
    clear hK K hHeld
    intro hHeld
    try simp only [Act.put, nmZ]
    refine wpAnyH_done (by kernel_rfl) ?_ _
    dsimp only [Only]
    clear e0 g0
    gi_wp2
    have hs3 := HS3.out
    have hs0 := HS0.out
    have hbX : Below w.heap.size w w6 := (to_ HB9.out (to_ HW4.out (alloc_ _ _))).grown H3.out (to_ HB9.out (to_ HW4.out (alloc_ _ _))).size fun r e => by have := HRW.out.lt r e; omega
    have hkX : Keeps (fun k => InIt w.heap.size W0.heap.size 5 k ∨ Two w3.heap.size k) X w6 := (Keeps.of_below (to_ HW4.out (alloc_ _ _)) (fun k _ hlt => hlt)).grown H3.out fun r e hr => by have := HRW.out.lt r e; unfold InIt Two at hr; omega
    refine ⟨hkX.setCell (by unfold Two InIt; simp; omega) _, ⟨?_, .slice nA (pre.length + 1) nc, ?_, ?_⟩, hbX.setCell (p := ⟨w.heap.size + 1 + 1, 0, none⟩) (by show w.heap.size ≤ w.heap.size + 1 + 1; omega) _, ?_⟩
    ·rw [World.cell?_setCell_other _ _ _ _ (by simp <;> omega)]; exact cell_step (cell_on HPC.out (to_ HW4.out (alloc_ _ _))) H3.out (own_ne HRW.out (by show w.heap.size < _; omega))
    ·exact HVB6.out.stored 0 _
    ·rw [HPU.out, HFQ.out, List.length_append]; exact own_cell H2.out _ _ (by show w.heap.size + 1 + 1 < _; omega)
    ·have h1 := hkX.size; have h2 := HSZ.out; simp [World.setCell]; omega
   ·go_simp
    have HN9 := Lib.hid (alloc_ w4 (.cells #[.int .i64 (fi : Int), .int .i64 (it : Int), .int .i64 x0, .int .i64 (y0 - (on : Int)), .int .i64 y0, .int .i64 frz] 44))
    clear bx
    have bx : (w4.alloc (.cells #[.int .i64 (fi : Int), .int .i64 (it : Int), .int .i64 x0, .int .i64 (y0 - (on : Int)), .int .i64 y0, .int .i64 frz] 44)).cell? ⟨w.heap.size + 1 + 1, 0, none⟩ = some v := (HVB.out.below (to_ HW4.out HN9.out) HVB.out.lt).cell 0
    refine hK.out _ _ (⟨cell_on hHeld.1 HN9.out, cell_on hHeld.2.1 HN9.out, cell_on hHeld.2.2.1 HN9.out, cell_on hHeld.2.2.2.1 HN9.out, cell_on hHeld.2.2.2.2.1 HN9.out, cell_on hHeld.2.2.2.2.2.1 HN9.out, cell_on hHeld.2.2.2.2.2.2.1 HN9.out, cell_on hHeld.2.2.2.2.2.2.2.1 HN9.out, cell_on hHeld.2.2.2.2.2.2.2.2.1 HN9.out, cell_on hHeld.2.2.2.2.2.2.2.2.2.1 HN9.out, cell_on hHeld.2.2.2.2.2.2.2.2.2.2.1 HN9.out, cell_on hHeld.2.2.2.2.2.2.2.2.2.2.2.1 HN9.out, cell_on hHeld.2.2.2.2.2.2.2.2.2.2.2.2.1 HN9.out, cell_on hHeld.2.2.2.2.2.2.2.2.2.2.2.2.2 HN9.out⟩) ?_
    clear hK K hHeld
    intro hHeld
    try simp only [Act.put, nmZ]
    refine wpAnyH_ready (rs := [0]) (by kernel_rfl) (by simp) ?_
    refine AllReadyH.cons rfl (fun K hK => ?_) AllReadyH.nil
    go_simp
    refine hK.out _ _ (hHeld) ?_
    clear hK K hHeld
    intro hHeld
    try simp only [Act.put, nmZ]
    refine wpAnyH_ready (rs := [21]) (by kernel_rfl) (by simp) ?_
    refine AllReadyH.cons rfl (fun K hK => ?_) AllReadyH.nil
    have KH := hHeld
    clear bx
    refine step_append_own rfl _ _ 40 rfl (w3.heap.size + 2) 44 iF (.agg #[.int .i64 0, .int .i64 0, .int .i64 0, .int .i64 0, .int .i64 0, .int .i64 0]) 6 48 Try.underlying40 hiF hzF0 hzF1 hzF2 rfl (by decide) v pre.length ((pre.map fo).flatMap encF6) rfl (own_on HRW.out (to_ HW4.out (alloc_ _ _))) ⟨w4.heap.size, 0, none⟩ 1 [.int .i64 (fi : Int), .int .i64 (it : Int), .int .i64 x0, .int .i64 (y0 - (on : Int)), .int .i64 y0, .int .i64 frz] rfl rfl (cells_new w4 _ _) (by simp [Value.oneCell']) (by unfold maxLen; have := HLN.out; omega) (by have := HLN.out; omega) (by have := HW4.out.size; have := HSZ.out; have := HSX.out; have := HU.out.size; simp; omega) ?_
    intro v' w6 h2 h3
    obtain ⟨nA, nc, rfl⟩ := own_form h2
    have hno : v.ownBlock ≠ some (w.heap.size + 2) := own_ne HRW.out (by have := HS3.out; have := HS0.out; omega)
    have hvb6 : Blk w6 (w.heap.size + 2) 40 #[v] := blk_grown (HVB.out.below (to_ HW4.out (alloc_ _ _)) HVB.out.lt) h3 hno
    have e0 : w6.cell? ⟨w.heap.size + 1 + 1, 0, none⟩ = some v := hvb6.cell 0
    have g0 : w6.frozen? ⟨w.heap.size + 1 + 1, 0, none⟩ = false := hvb6.frozen 0
    have h6 : w6.cell? ⟨V0.heap.size, 0, none⟩ = some (.int .i64 x0) ∧ w6.cell? ⟨V0.heap.size, 1, none⟩ = some (.int .i64 y0) ∧ w6.cell? ⟨X.heap.size, 0, none⟩ = some (.int .i64 (fi : Int)) ∧ w6.cell? ⟨X.heap.size, 1, none⟩ = some (.int .i64 (it : Int)) ∧ w6.cell? ⟨X.heap.size, 2, none⟩ = some (.string nm) ∧ w6.cell? ⟨X.heap.size, 3, none⟩ = some (.int .i64 cl) ∧ w6.cell? ⟨X.heap.size, 4, none⟩ = some (.slice gA gn gc) ∧ w6.cell? ⟨X.heap.size, 5, none⟩ = some (.int .i64 pd) ∧ w6.cell? ⟨X.heap.size, 6, none⟩ = some (.bool no) ∧ w6.cell? ⟨X.heap.size, 7, none⟩ = some (.int .i64 fr) ∧ w6.cell? ⟨X.heap.size, 8, none⟩ = some (.int .i64 tt) ∧ w6.cell? ⟨X.heap.size, 9, none⟩ = some (.slice lA ln lc) ∧ w6.cell? ⟨X.heap.size, 10, none⟩ = some (.slice oA on oc) ∧ w6.cell? ⟨X.heap.size, 11, none⟩ = some (.slice rA rn rc) := ⟨cell_step KH.1 h3 HN1.out, cell_step KH.2.1 h3 HN1.out, cell_step KH.2.2.1 h3 HN2.out, cell_step KH.2.2.2.1 h3 HN2.out, cell_step KH.2.2.2.2.1 h3 HN2.out, cell_step KH.2.2.2.2.2.1 h3 HN2.out, cell_step KH.2.2.2.2.2.2.1 h3 HN2.out, cell_step KH.2.2.2.2.2.2.2.1 h3 HN2.out, cell_step KH.2.2.2.2.2.2.2.2.1 h3 HN2.out, cell_step KH.2.2.2.2.2.2.2.2.2.1 h3 HN2.out, cell_step KH.2.2.2.2.2.2.2.2.2.2.1 h3 HN2.out, cell_step KH.2.2.2.2.2.2.2.2.2.2.2.1 h3 HN2.out, cell_step KH.2.2.2.2.2.2.2.2.2.2.2.2.1 h3 HN2.out, cell_step KH.2.2.2.2.2.2.2.2.2.2.2.2.2 h3 HN2.out⟩
    have HK6 := Lib.hid h6
    have H2 := Lib.hid h2
    have H3 := Lib.hid h3
    have HVB6 := Lib.hid hvb6
    clear h2 h3 KH hno hvb6
    refine hK.out _ _ (h6) ?_
    clear hK K hHeld
    intro hHeld
    try simp only [Act.put, nmZ]
    clear h6
    refine wpAnyH_ready (rs := [22]) (by kernel_rfl) (by simp) ?_
    refine AllReadyH.cons rfl (fun K hK => ?_) AllReadyH.nil
    go_simp
    refine hK.out _ _ (⟨cell_far HK6.out.1 (by show V0.heap.size ≠ w.heap.size + 1 + 1; have := HV0.out; omega), cell_far HK6.out.2.1 (by show V0.heap.size ≠ w.heap.size + 1 + 1; have := HV0.out; omega), cell_far HK6.out.2.2.1 (by show X.heap.size ≠ w.heap.size + 1 + 1; have := HV0.out; omega), cell_far HK6.out.2.2.2.1 (by show X.heap.size ≠ w.heap.size + 1 + 1; have := HV0.out; omega), cell_far HK6.out.2.2.2.2.1 (by show X.heap.size ≠ w.heap.size + 1 + 1; have := HV0.out; omega), cell_far HK6.out.2.2.2.2.2.1 (by show X.heap.size ≠ w.heap.size + 1 + 1; have := HV0.out; omega), cell_far HK6.out.2.2.2.2.2.2.1 (by show X.heap.size ≠ w.heap.size + 1 + 1; have := HV0.out; omega), cell_far HK6.out.2.2.2.2.2.2.2.1 (by show X.heap.size ≠ w.heap.size + 1 + 1; have := HV0.out; omega), cell_far HK6.out.2.2.2.2.2.2.2.2.1 (by show X.heap.size ≠ w.heap.size + 1 + 1; have := HV0.out; omega), cell_far HK6.out.2.2.2.2.2.2.2.2.2.1 (by show X.heap.size ≠ w.heap.size + 1 + 1; have := HV0.out; omega), cell_far HK6.out.2.2.2.2.2.2.2.2.2.2.1 (by show X.heap.size ≠ w.heap.size + 1 + 1; have := HV0.out; omega), cell_far HK6.out.2.2.2.2.2.2.2.2.2.2.2.1 (by show X.heap.size ≠ w.heap.size + 1 + 1; have := HV0.out; omega), cell_far HK6.out.2.2.2.2.2.2.2.2.2.2.2.2.1 (by show X.heap.size ≠ w.heap.size + 1 + 1; have := HV0.out; omega), cell_far HK6.out.2.2.2.2.2.2.2.2.2.2.2.2.2 (by show X.heap.size ≠ w.heap.size + 1 + 1; have := HV0.out; omega)⟩) ?_
    clear hK K hHeld
    intro hHeld
    try simp only [Act.put, nmZ]
    refine wpAnyH_done (by kernel_rfl) ?_ _
    dsimp only [Only]
    clear e0 g0
    gi_wp2
    have hs3 := HS3.out
    have hs0 := HS0.out
    have hbX : Below w.heap.size w w6 := (to_ HB9.out (to_ HW4.out (alloc_ _ _))).grown H3.out (to_ HB9.out (to_ HW4.out (alloc_ _ _))).size fun r e => by have := HRW.out.lt r e; omega
    have hkX : Keeps (fun k => InIt w.heap.size W0.heap.size 5 k ∨ Two w3.heap.size k) X w6 := (Keeps.of_below (to_ HW4.out (alloc_ _ _)) (fun k _ hlt => hlt)).grown H3.out fun r e hr => by have := HRW.out.lt r e; unfold InIt Two at hr; omega
    refine ⟨hkX.setCell (by unfold Two InIt; simp; omega) _, ⟨?_, .slice nA (pre.length + 1) nc, ?_, ?_⟩, hbX.setCell (p := ⟨w.heap.size + 1 + 1, 0, none⟩) (by show w.heap.size ≤ w.heap.size + 1 + 1; omega) _, ?_⟩
    ·rw [World.cell?_setCell_other _ _ _ _ (by simp <;> omega)]; exact cell_step (cell_on HPC.out (to_ HW4.out (alloc_ _ _))) H3.out (own_ne HRW.out (by show w.heap.size < _; omega))
    ·exact HVB6.out.stored 0 _
    ·rw [HPU.out, HFQ.out, List.length_append]; exact own_cell H2.out _ _ (by show w.heap.size + 1 + 1 < _; omega)
    ·have h1 := hkX.size; have h2 := HSZ.out; simp [World.setCell]; omega
 case done =>
  rintro X ⟨⟨hpb, v, hvb, hrow⟩, hbel, hsz⟩ hD
  have r0 : X.cell? ⟨w.heap.size + 1 + 1, 0, none⟩ = some v := hvb.cell 0
  have HRW := Lib.hid hrow
  have HB9 := Lib.hid hbel
  clear hrow hbel hv3 hp3 hs0 hs3 hvb
  gi_wp2
  have hs3 := HS3.out
  have hs0 := HS0.out
  have hrw2 := own_keep1 HRW.out (w' := X.putObj w3.heap.size (.deferred none)) (fun g hg hlt _ => World.putObj_heap_other (by omega))
  obtain ⟨A9, c9, rfl, hfl9⟩ := HOWN.out _ _ _ hrw2
  refine ⟨by simp, .inl ⟨_, _, rfl, run_takeDeferred hD, ?_⟩⟩
  refine ⟨_, results_tmp rfl _ _ _, _, _, rfl, ?_, ?_⟩
  ·exact hfl9
  ·exact HB9.out.trans ⟨rfl, rfl, rfl, by simp, fun k hk => World.putObj_heap_other (by omega)⟩
 case stop =>
  rintro ch pre X _ h _
  exact h.elim
theorem fl_at {w : World} {A : Option Addr} {n c : Nat} {l : List F6} (h : FL w A n c l) {i : Nat} (hi : i < n) :
  ∃ ad a b c d e f, A = some ad ∧ l[i]? = some ⟨a, b, c, d, e, f⟩ ∧ w.cell? (ad.add (i * 6)) = some (.int .i64 a) ∧ w.cell? ⟨(ad.add (i * 6)).block, (ad.add (i * 6)).off + 1, none⟩ = some (.int .i64 b) ∧ w.cell? ⟨(ad.add (i * 6)).block, (ad.add (i * 6)).off + 2, none⟩ = some (.int .i64 c) ∧ w.cell? ⟨(ad.add (i * 6)).block, (ad.add (i * 6)).off + 3, none⟩ = some (.int .i64 d) ∧ w.cell? ⟨(ad.add (i * 6)).block, (ad.add (i * 6)).off + 4, none⟩ = some (.int .i64 e) ∧ w.cell? ⟨(ad.add (i * 6)).block, (ad.add (i * 6)).off + 5, none⟩ = some (.int .i64 f) := by
 have hl : i < l.length := by rw [h.1]; exact hi
 obtain ⟨ad, e, hb, hc⟩ := h.2.2.2.2 i l[i] (List.getElem?_eq_getElem hl)
 have f : ∀ j, 0 < j → (ad.add (i * 6)).add j = ⟨(ad.add (i * 6)).block, (ad.add (i * 6)).off + j, none⟩ := fun j hj => add_field _ j hj
 refine ⟨ad, l[i].fi, l[i].it, l[i].st, l[i].bo, l[i].en, l[i].fr, e, List.getElem?_eq_getElem hl, hc 0 _ rfl, ?_, ?_, ?_, ?_, ?_⟩
 ·rw [← f 1 (by omega)]; exact hc 1 _ rfl
 ·rw [← f 2 (by omega)]; exact hc 2 _ rfl
 ·rw [← f 3 (by omega)]; exact hc 3 _ rfl
 ·rw [← f 4 (by omega)]; exact hc 4 _ rfl
 ·rw [← f 5 (by omega)]; exact hc 5 _ rfl
end Go.Proofs.Ytbcabomblfehlab.Bo
