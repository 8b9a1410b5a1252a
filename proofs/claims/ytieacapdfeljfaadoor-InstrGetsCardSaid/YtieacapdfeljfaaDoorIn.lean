/-
  WALK: the law InstrGets.
-/
import Derived.Test.YtieacapdfeljfaaDoorIl
namespace Go.Proofs.YtieacapdfeljfaaDoor.By
open Go.ChangeShapes Go.WideShapes Go.ChangeAt Go.RowKit
open Mem

theorem rnum_one (w : World) (B : Nat) (A : Option Addr) (n c : Nat) (l : List UInt8) (p : Nat) (good : Bool) (hn : l.length = n) (hp : p ≤ n) (hl : n ≤ 1099511627776) (hv : SlV w B (.slice A n c) (u8s l)) :
    Calls Tryd.prog 31 #[.agg #[.slice A n c, .int .i64 p, .bool (!good)], .int .i64 1, .bool false] w (RNum w A n c (readP l p good 1) (!fitsB l p good 1) (readV false l p good 1)) := by
  subst hn
  exact rnum_any w B A c l p good false 1 hp hl hv

theorem got_form (l : List UInt8) (p : Nat) (good : Bool) : ∃ o a b c n, gotI l p good = #[.int .i64 o, .int .i64 a, .int .i64 b, .int .i64 c, .int .i64 n] := by
  unfold gotI
  split
  all_goals exact ⟨_, _, _, _, _, rfl⟩

set_option linter.unusedSimpArgs false in
set_option maxHeartbeats 16000000 in
theorem insgets_any (w : World) (l : List UInt8) (A0 : Option Addr) (cp : Nat) (skip : Int) (h : SlV w w.heap.size (.slice A0 l.length cp) (u8s l)) (ht : Txs w) :
    Calls Tryd.prog 6 #[.slice A0 l.length cp, .int .i64 skip] w fun e w' => e = .returned (.bool true) ∧ Below w.heap.size w w' := by
  have HT := Lib.hid ht
  have h2 := ht.two
  by_cases hbig : 200 < l.length
  · have hd : decide (200 < (l.length : Int)) = true := by simp; omega
    have HK := Lib.hid (known08_any w HT.out)
    clear h hbig ht
    generalize l.length = nl at hd ⊢
    go_enter Tryd.func6, Tryd.ntmps6
    go_wp2_with fail
    refine HK.out.mono ?_
    rintro e w1 ⟨rfl, hb⟩
    go_wp2_with fail
    go_ret
    exact ⟨rfl, hb⟩
  have hd : decide (200 < (l.length : Int)) = false := by simp; omega
  have HS := Lib.hid h
  have HN := Lib.hid (new_any _ l w _ h (by omega))
  obtain ⟨n, hn⟩ : ∃ n, l.length = n := ⟨_, rfl⟩
  rw [hn] at hd HS HN hbig ⊢
  have HLL := Lib.hid hn
  clear h hn ht
  go_enter Tryd.func6, Tryd.ntmps6
  go_wp2_with fail
  refine HN.out.mono ?_
  rintro e w1 ⟨g, A, c, rfl, hg, hr, hb⟩
  have hg1 := hr.blk.lt
  have s1 := hb.size
  have HR := Lib.hid (hr.below ((Below.refl w1.heap.size w1).alloc (Nat.le_refl _) (.cells #[.slice A0 n cp, .int .i64 (0 : Nat), .bool (!true)] 40)) hg1)
  have HX := Lib.hid (Blk.new w1 40 #[.slice A0 n cp, .int .i64 (0 : Nat), .bool (!true)])
  have HB := Lib.hid (hb.alloc s1 (.cells #[.slice A0 n cp, .int .i64 (0 : Nat), .bool (!true)] 40))
  obtain ⟨GX, hGX⟩ : ∃ G, G = w1.heap.size := ⟨_, rfl⟩
  rw [← hGX] at HX
  have hGg : g < GX := by omega
  have hGw : w.heap.size ≤ GX := by omega
  have HGX := Lib.hid hGX
  clear hr hb hGX HN
  go_wp2_with fail
  rw [← HGX.out]
  go_loopw [7] (fun v wr => ∃ (i p : Nat) (good : Bool), i ≤ 9 ∧ v = .int .i64 i ∧ Hid (Rdr wr g A c l p good) ∧ Hid (Blk wr GX 40 #[.slice A0 n cp, .int .i64 p, .bool (!good)]) ∧ Hid (Below w.heap.size w wr)) (fun v _ => 9 - (intOf v).toNat)
  case atStart => exact ⟨0, 0, true, by omega, rfl, HR, HX, HB⟩
  case round =>
    clear HR HX HB
    obtain ⟨i, p, good, hi, rfl, HR, HX, HB⟩ := hrel
    obtain ⟨wz, hwz⟩ : ∃ wz, wz = wr := ⟨_, rfl⟩
    subst hwz
    have hpn : p ≤ n := by have := HR.out.le; have := HLL.out; omega
    by_cases hgo : (i : Int) < skip ∧ (i : Int) < 9
    · have hd1 : decide ((i : Int) < skip) = true := by simpa using hgo.1
      have hd2 : decide ((i : Int) < 9) = true := by simpa using hgo.2
      have hi9 : i < 9 := by omega
      have hm : IntKind.i64.wrap ((i : Int) + 1) = (i : Int) + 1 := IntWalk.i64_in _ (by omega)
      have HRN := Lib.hid (rnum_one wz w.heap.size A0 n cp l p good HLL.out hpn (by omega) (HS.out.below HB.out))
      have m0 : wz.cell? ⟨GX, 0, none⟩ = some (.slice A0 n cp) := by rw [HX.out.cell]; rfl
      have m1 : wz.cell? ⟨GX, 1, none⟩ = some (.int .i64 p) := by rw [HX.out.cell]; rfl
      have m2 : wz.cell? ⟨GX, 2, none⟩ = some (.bool (!good)) := by rw [HX.out.cell]; rfl
      have f0 : wz.frozen? ⟨GX, 0, none⟩ = false := HX.out.frozen 0
      have f1 : wz.frozen? ⟨GX, 1, none⟩ = false := HX.out.frozen 1
      have f2 : wz.frozen? ⟨GX, 2, none⟩ = false := HX.out.frozen 2
      have lx : GX < wz.heap.size := HX.out.lt
      clear hgo
      go_wp2_with fail
      refine HRN.out.mono ?_
      rintro e w2 ⟨rfl, hb⟩
      have s2 := hb.size
      have HX' := HX
      have HX := Lib.hid (HX'.out.below hb lx)
      have HR2 := Lib.hid (HR.out.below hb HR.out.blk.lt)
      have HB2 := Lib.hid (HB.out.trans (hb.mono HB.out.size))
      clear hb HRN HX' HR HB m0 m1 m2 f0 f1 f2 lx
      generalize hpp : readP l p good 1 = pp
      generalize hff : fitsB l p good 1 = ff
      have HPP := Lib.hid hpp
      have HFF := Lib.hid hff
      clear hpp hff
      have m0 : w2.cell? ⟨GX, 0, none⟩ = some (.slice A0 n cp) := by rw [HX.out.cell]; rfl
      have m1 : w2.cell? ⟨GX, 1, none⟩ = some (.int .i64 p) := by rw [HX.out.cell]; rfl
      have m2 : w2.cell? ⟨GX, 2, none⟩ = some (.bool (!good)) := by rw [HX.out.cell]; rfl
      have f0 : w2.frozen? ⟨GX, 0, none⟩ = false := HX.out.frozen 0
      have f1 : w2.frozen? ⟨GX, 1, none⟩ = false := HX.out.frozen 1
      have f2 : w2.frozen? ⟨GX, 2, none⟩ = false := HX.out.frozen 2
      have lx : GX < w2.heap.size := HX.out.lt
      go_wp2_with fail
      generalize hu : (((w2.setCell ⟨GX, 0, none⟩ (.slice A0 n cp)).setCell ⟨GX, 1, none⟩ (.int .i64 pp)).setCell ⟨GX, 2, none⟩ (.bool (!ff))).alloc (.cells #[.slice A0 n cp, .int .i64 pp, .bool (!ff)] 40) = u
      have HX3 := Lib.hid (show Blk u GX 40 #[.slice A0 n cp, .int .i64 pp, .bool (!ff)] by rw [← hu]; exact (HX.out.three _ _ _).alloc _)
      have hou : w2.grownBy u (some GX) := by rw [← hu]; exact only_alloc (only_set (only_set (only_set (only_refl w2 GX) 0 _) 1 _) 2 _) _
      have HR3 := Lib.hid (HR2.out.only hou hGg)
      have HB3 := Lib.hid (below_of_only HB2.out hou HB2.out.size hGw)
      have HNU := Lib.hid (num_any u g A c l p good HR3.out 1)
      clear hu hou HX HR2 HB2 m0 m1 m2 f0 f1 f2 lx
      unfold Read at HNU
      rw [HPP.out, HFF.out] at HNU
      refine HNU.out.mono ?_
      rintro e w4 ⟨rfl, hr4, ho4⟩
      have HX4 := Lib.hid (HX3.out.only ho4 (by omega))
      have HB4 := Lib.hid (below_of_only HB3.out ho4 HB3.out.size hg)
      have HR4 := Lib.hid hr4
      clear hr4 ho4 HX3 HB3 HR3 HNU
      go_wp2_with fail
      go_roundw
      case rel => exact ⟨i + 1, pp, ff, by omega, by go_num, HR4, HX4, HB4⟩
      case measure => simp [intOf]; omega
    have hex : (decide ((i : Int) < skip) = false) ∨ (decide ((i : Int) < skip) = true ∧ decide ((i : Int) < 9) = false) := by
      by_cases h1 : (i : Int) < skip
      · exact .inr ⟨by simpa using h1, by simp; omega⟩
      · exact .inl (by simpa using h1)
    clear hgo hi
    obtain ⟨i2, hi2⟩ : ∃ z : Int, z = (i : Int) := ⟨_, rfl⟩
    rw [← hi2] at hex ⊢
    clear hi2
    have hgoal : (decide (i2 < skip) = false) ∨ (decide (i2 < skip) = true ∧ decide (i2 < 9) = false) := hex
    clear hex
    rcases hgoal with hd1 | ⟨hd1, hd2⟩
    all_goals
      go_wp2_with fail
      go_loopw [10] (fun v wr => ∃ (i p : Nat) (good : Bool), i ≤ 9 ∧ v = .int .i64 i ∧ Hid (Rdr wr g A c l p good) ∧ Hid (Blk wr GX 40 #[.slice A0 n cp, .int .i64 p, .bool (!good)]) ∧ Hid (Below w.heap.size w wr)) (fun v _ => 9 - (intOf v).toNat)
      case atStart => exact ⟨0, p, good, by omega, rfl, HR, HX, HB⟩
      case round =>
        clear HR HX HB hpn
        obtain ⟨i, p, good, hi, rfl, HR, HX, HB⟩ := hrel
        obtain ⟨wy, hwy⟩ : ∃ wy, wy = wr := ⟨_, rfl⟩
        subst hwy
        have hpn : p ≤ n := by have := HR.out.le; have := HLL.out; omega
        by_cases hi9 : i < 9
        · have hd3 : decide ((i : Int) < 9) = true := by simp; omega
          have hm : IntKind.i64.wrap ((i : Int) + 1) = (i : Int) + 1 := IntWalk.i64_in _ (by omega)
          have HGE := Lib.hid (get_any wy g A c l p good HR.out (HT.out.below HB.out) (by omega))
          unfold Got at HGE
          obtain ⟨o, a, b, c', n', hgi⟩ := got_form l p good
          rw [hgi] at HGE
          have HRG := Lib.hid (fun (W : World) hv => rget_any W A0 n cp l p good HLL.out hpn (by omega) hv)
          unfold RGot at HRG
          rw [hgi] at HRG
          generalize gotE l p good = ge at HGE HRG
          generalize readP l p good 8 = pp at HGE HRG
          generalize fitsB l p good 8 = ff at HGE HRG
          clear hgi
          go_wp2_with fail
          refine HGE.out.mono ?_
          rintro e w2 ⟨rfl, hr2, ho2⟩
          have HX2 := HX.out.only ho2 (by omega)
          have HB2 := below_of_only HB.out ho2 HB.out.size hg
          have s2 := ho2.size
          obtain ⟨w3, hw3⟩ : ∃ W, w2.alloc (.cells #[.int .i64 o, .int .i64 a, .int .i64 b, .int .i64 c', .int .i64 n'] 29) = W := ⟨_, rfl⟩
          have b3 : Below w2.heap.size w2 w3 := by rw [← hw3]; exact (Below.refl _ _).alloc (Nat.le_refl _) _
          have HA := Lib.hid (show Blk w3 w2.heap.size 29 #[.int .i64 o, .int .i64 a, .int .i64 b, .int .i64 c', .int .i64 n'] by rw [← hw3]; exact Blk.new w2 _ _)
          have HX := Lib.hid (HX2.below b3 HX2.lt)
          have HR3 := Lib.hid (hr2.below b3 hr2.blk.lt)
          have HB3 := Lib.hid (HB2.trans (b3.mono HB2.size))
          have s3 : w2.heap.size + 1 ≤ w3.heap.size := by rw [← hw3]; simp
          obtain ⟨GA, hGA⟩ : ∃ G, G = w2.heap.size := ⟨_, rfl⟩
          rw [← hGA] at HA
          have hXA : GX < GA := by have := HX2.lt; omega
          have s3' : GA < w3.heap.size := by omega
          have HGA := Lib.hid hGA
          have HRG3 := Lib.hid (HRG.out w3 ((HS.out.below HB3.out).more HB3.out.size))
          clear hr2 ho2 HX2 HB2 b3 HGE HRG HR HB hGA s3
          have m0 : w3.cell? ⟨GX, 0, none⟩ = some (.slice A0 n cp) := by rw [HX.out.cell]; rfl
          have m1 : w3.cell? ⟨GX, 1, none⟩ = some (.int .i64 p) := by rw [HX.out.cell]; rfl
          have m2 : w3.cell? ⟨GX, 2, none⟩ = some (.bool (!good)) := by rw [HX.out.cell]; rfl
          have f0 : w3.frozen? ⟨GX, 0, none⟩ = false := HX.out.frozen 0
          have f1 : w3.frozen? ⟨GX, 1, none⟩ = false := HX.out.frozen 1
          have f2 : w3.frozen? ⟨GX, 2, none⟩ = false := HX.out.frozen 2
          have lx : GX < w3.heap.size := HX.out.lt
          go_wp2_with fail
          rw [← HGA.out]
          clear hw3
          refine HRG3.out.mono ?_
          rintro e w4 ⟨rfl, hb⟩
          have s4 := hb.size
          have HX4 := Lib.hid (HX.out.below hb HX.out.lt)
          have HA4 := Lib.hid (HA.out.below hb s3')
          have HR4 := Lib.hid (HR3.out.below hb HR3.out.blk.lt)
          have HB4 := Lib.hid (HB3.out.trans (hb.mono HB3.out.size))
          clear hb HX HA HR3 HB3 HRG3 m0 m1 m2 f0 f1 f2 lx
          have HX := HX4
          have m0 : w4.cell? ⟨GX, 0, none⟩ = some (.slice A0 n cp) := by rw [HX.out.cell]; rfl
          have m1 : w4.cell? ⟨GX, 1, none⟩ = some (.int .i64 p) := by rw [HX.out.cell]; rfl
          have m2 : w4.cell? ⟨GX, 2, none⟩ = some (.bool (!good)) := by rw [HX.out.cell]; rfl
          have f0 : w4.frozen? ⟨GX, 0, none⟩ = false := HX.out.frozen 0
          have f1 : w4.frozen? ⟨GX, 1, none⟩ = false := HX.out.frozen 1
          have f2 : w4.frozen? ⟨GX, 2, none⟩ = false := HX.out.frozen 2
          have lx : GX < w4.heap.size := HX.out.lt
          clear HX
          go_wp2_with fail
          have HX := HX4
          clear m0 m1 m2 f0 f1 f2 lx
          generalize hu : ((((w4.setCell ⟨GX, 0, none⟩ (.slice A0 n cp)).setCell ⟨GX, 1, none⟩ (.int .i64 pp)).setCell ⟨GX, 2, none⟩ (.bool (!ff))).alloc (.cells #[.slice A0 n cp, .int .i64 pp, .bool (!ff)] 40)).alloc (.cells #[.int .i64 o, .int .i64 a, .int .i64 b, .int .i64 c', .int .i64 n'] 29) = W7
          have HX7 := Lib.hid (show Blk W7 GX 40 #[.slice A0 n cp, .int .i64 pp, .bool (!ff)] by rw [← hu]; exact ((HX.out.three _ _ _).alloc _).alloc _)
          have hou : w4.grownBy W7 (some GX) := by rw [← hu]; exact only_alloc (only_alloc (only_set (only_set (only_set (only_refl w4 GX) 0 _) 1 _) 2 _) _) _
          obtain ⟨GC, hGC⟩ : ∃ G, G = w4.heap.size + 1 := ⟨_, rfl⟩
          have HC7 := Lib.hid (show Blk W7 GC 29 #[.int .i64 o, .int .i64 a, .int .i64 b, .int .i64 c', .int .i64 n'] by rw [← hu]; exact Blk.at_ _ _ (by rw [hGC]; simp [World.setCell]))
          have HA7 := Lib.hid (HA4.out.only hou (by omega))
          have HR7 := Lib.hid (HR4.out.only hou hGg)
          have HB7 := Lib.hid (below_of_only HB4.out hou HB4.out.size hGw)
          rw [← hGC]
          clear hu hou hGC HX HX4 HA4 HR4 HB4
          have MK := Lib.hid (show ∀ w', Below W7.heap.size W7 w' → (w'.cell? ⟨GA, 0, none⟩ = some (.int .i64 o) ∧ w'.cell? ⟨GA, 1, none⟩ = some (.int .i64 a) ∧ w'.cell? ⟨GA, 2, none⟩ = some (.int .i64 b) ∧ w'.cell? ⟨GA, 3, none⟩ = some (.int .i64 c') ∧ w'.cell? ⟨GA, 4, none⟩ = some (.int .i64 n') ∧ w'.cell? ⟨GC, 0, none⟩ = some (.int .i64 o) ∧ w'.cell? ⟨GC, 1, none⟩ = some (.int .i64 a) ∧ w'.cell? ⟨GC, 2, none⟩ = some (.int .i64 b) ∧ w'.cell? ⟨GC, 3, none⟩ = some (.int .i64 c') ∧ w'.cell? ⟨GC, 4, none⟩ = some (.int .i64 n') ∧ w'.cell? ⟨GX, 1, none⟩ = some (.int .i64 (pp : Int)) ∧ w'.cell? ⟨GX, 2, none⟩ = some (.bool (!ff)) ∧ Below W7.heap.size W7 w') from fun w' hb => by
            have ha := HA7.out.below hb HA7.out.lt
            have hc := HC7.out.below hb HC7.out.lt
            have hx := HX7.out.below hb HX7.out.lt
            exact ⟨by rw [ha.cell]; rfl, by rw [ha.cell]; rfl, by rw [ha.cell]; rfl, by rw [ha.cell]; rfl, by rw [ha.cell]; rfl, by rw [hc.cell]; rfl, by rw [hc.cell]; rfl, by rw [hc.cell]; rfl, by rw [hc.cell]; rfl, by rw [hc.cell]; rfl, by rw [hx.cell]; rfl, by rw [hx.cell]; rfl, hb⟩)
          have CAT := Lib.hid (show ∀ w', Below W7.heap.size W7 w' → Calls Tryd.prog 35 #[.pointer (some ⟨g, 0, none⟩)] w' (fun e w'' => e = .returned (.int .i64 (pp : Int)) ∧ Below W7.heap.size W7 w'') from fun w' hb => (at_any w' g A c l pp ff (HR7.out.below hb HR7.out.blk.lt)).mono (by rintro e w'' ⟨he, hw⟩; exact ⟨he, by rw [← hw]; exact hb⟩))
          have CBA := Lib.hid (show ∀ w', Below W7.heap.size W7 w' → Calls Tryd.prog 36 #[.pointer (some ⟨g, 0, none⟩)] w' (fun e w'' => e = .returned (.bool (!ff)) ∧ Below W7.heap.size W7 w'') from fun w' hb => (bad_any w' g A c l pp ff (HR7.out.below hb HR7.out.blk.lt)).mono (by rintro e w'' ⟨he, hw⟩; exact ⟨he, by rw [← hw]; exact hb⟩))
          clear s2 s3' s4 hXA hi
          refine wp_region_noPanic ?_
          refine wp_region_held_drew (S := fun w' => w'.cell? ⟨GA, 0, none⟩ = some (.int .i64 o) ∧ w'.cell? ⟨GA, 1, none⟩ = some (.int .i64 a) ∧ w'.cell? ⟨GA, 2, none⟩ = some (.int .i64 b) ∧ w'.cell? ⟨GA, 3, none⟩ = some (.int .i64 c') ∧ w'.cell? ⟨GA, 4, none⟩ = some (.int .i64 n') ∧ w'.cell? ⟨GC, 0, none⟩ = some (.int .i64 o) ∧ w'.cell? ⟨GC, 1, none⟩ = some (.int .i64 a) ∧ w'.cell? ⟨GC, 2, none⟩ = some (.int .i64 b) ∧ w'.cell? ⟨GC, 3, none⟩ = some (.int .i64 c') ∧ w'.cell? ⟨GC, 4, none⟩ = some (.int .i64 n') ∧ w'.cell? ⟨GX, 1, none⟩ = some (.int .i64 (pp : Int)) ∧ w'.cell? ⟨GX, 2, none⟩ = some (.bool (!ff)) ∧ Below W7.heap.size W7 w') (by kernel_rfl) (MK.out _ (Below.refl _ _).drew) (fun hHeld => ?_)
          refine wpAnyH_take (i := 0) rfl (by kernel_rfl) (by kernel_rfl) (by kernel_rfl) (fun _ _ _ h => h) (Or.inl ⟨by rfl, by intro W hSW; (try dsimp only at hSW); go_simp; try (with_reducible rfl)⟩) hHeld ?_
          try simp only [Act.put, List.getElem_toArray, List.getElem_cons_zero, List.getElem_cons_succ, List.setIfInBounds_toArray, List.set_cons_zero, List.set_cons_succ]
          refine wpAnyH_take (i := 1) rfl (by kernel_rfl) (by kernel_rfl) (by kernel_rfl) (fun _ _ _ h => h) (Or.inl ⟨by rfl, by intro W hSW; (try dsimp only at hSW); go_simp; try (with_reducible rfl)⟩) hHeld ?_
          try simp only [Act.put, List.getElem_toArray, List.getElem_cons_zero, List.getElem_cons_succ, List.setIfInBounds_toArray, List.set_cons_zero, List.set_cons_succ]
          refine wpAnyH_take (i := 2) rfl (by kernel_rfl) (by kernel_rfl) (by kernel_rfl) (fun _ _ _ h => h) (Or.inl ⟨by rfl, by intro W hSW; (try dsimp only at hSW); go_simp; try (with_reducible rfl)⟩) hHeld ?_
          try simp only [Act.put, List.getElem_toArray, List.getElem_cons_zero, List.getElem_cons_succ, List.setIfInBounds_toArray, List.set_cons_zero, List.set_cons_succ]
          refine wpAnyH_take (i := 3) rfl (by kernel_rfl) (by kernel_rfl) (by kernel_rfl) (fun _ _ _ h => h) (Or.inl ⟨by rfl, by intro W hSW; (try dsimp only at hSW); go_simp; try (with_reducible rfl)⟩) hHeld ?_
          try simp only [Act.put, List.getElem_toArray, List.getElem_cons_zero, List.getElem_cons_succ, List.setIfInBounds_toArray, List.set_cons_zero, List.set_cons_succ]
          refine wpAnyH_take (i := 4) rfl (by kernel_rfl) (by kernel_rfl) (by kernel_rfl) (fun _ _ _ h => h) (Or.inl ⟨by rfl, by intro W hSW; (try dsimp only at hSW); go_simp; try (with_reducible rfl)⟩) hHeld ?_
          try simp only [Act.put, List.getElem_toArray, List.getElem_cons_zero, List.getElem_cons_succ, List.setIfInBounds_toArray, List.set_cons_zero, List.set_cons_succ]
          refine wpAnyH_take (i := 5) rfl (by kernel_rfl) (by kernel_rfl) (by kernel_rfl) (fun _ _ _ h => h) (Or.inl ⟨by rfl, by intro W hSW; (try dsimp only at hSW); go_simp; try (with_reducible rfl)⟩) hHeld ?_
          try simp only [Act.put, List.getElem_toArray, List.getElem_cons_zero, List.getElem_cons_succ, List.setIfInBounds_toArray, List.set_cons_zero, List.set_cons_succ]
          refine wpAnyH_take (i := 6) rfl (by kernel_rfl) (by kernel_rfl) (by kernel_rfl) (fun _ _ _ h => h) (Or.inl ⟨by rfl, by intro W hSW; (try dsimp only at hSW); go_simp; try (with_reducible rfl)⟩) hHeld ?_
          try simp only [Act.put, List.getElem_toArray, List.getElem_cons_zero, List.getElem_cons_succ, List.setIfInBounds_toArray, List.set_cons_zero, List.set_cons_succ]
          refine wpAnyH_take (i := 7) rfl (by kernel_rfl) (by kernel_rfl) (by kernel_rfl) (fun _ _ _ h => h) (Or.inl ⟨by rfl, by intro W hSW; (try dsimp only at hSW); go_simp; try (with_reducible rfl)⟩) hHeld ?_
          try simp only [Act.put, List.getElem_toArray, List.getElem_cons_zero, List.getElem_cons_succ, List.setIfInBounds_toArray, List.set_cons_zero, List.set_cons_succ]
          refine wpAnyH_take (i := 8) rfl (by kernel_rfl) (by kernel_rfl) (by kernel_rfl) (fun _ _ _ h => h) (Or.inl ⟨by rfl, by intro W hSW; (try dsimp only at hSW); go_simp; try (with_reducible rfl)⟩) hHeld ?_
          try simp only [Act.put, List.getElem_toArray, List.getElem_cons_zero, List.getElem_cons_succ, List.setIfInBounds_toArray, List.set_cons_zero, List.set_cons_succ]
          refine wpAnyH_take (i := 9) rfl (by kernel_rfl) (by kernel_rfl) (by kernel_rfl) (fun _ _ _ h => h) (Or.inl ⟨by rfl, by intro W hSW; (try dsimp only at hSW); go_simp; try (with_reducible rfl)⟩) hHeld ?_
          try simp only [Act.put, List.getElem_toArray, List.getElem_cons_zero, List.getElem_cons_succ, List.setIfInBounds_toArray, List.set_cons_zero, List.set_cons_succ]
          refine wpAnyH_take (i := 11) rfl (by kernel_rfl) (by kernel_rfl) (by kernel_rfl) (fun _ _ _ h => h) (Or.inl ⟨by rfl, by intro W hSW; (try dsimp only at hSW); go_simp; try (with_reducible rfl)⟩) hHeld ?_
          try simp only [Act.put, List.getElem_toArray, List.getElem_cons_zero, List.getElem_cons_succ, List.setIfInBounds_toArray, List.set_cons_zero, List.set_cons_succ]
          refine wpAnyH_take (i := 12) rfl (by kernel_rfl) (by kernel_rfl) (by kernel_rfl) (fun _ _ _ h => h) (Or.inl ⟨by rfl, by intro W hSW; (try dsimp only at hSW); go_simp; try (with_reducible rfl)⟩) hHeld ?_
          try simp only [Act.put, List.getElem_toArray, List.getElem_cons_zero, List.getElem_cons_succ, List.setIfInBounds_toArray, List.set_cons_zero, List.set_cons_succ]
          refine wpAnyH_ready (rs := [10]) (by kernel_rfl) (by simp) ?_
          refine AllReadyH.cons rfl (fun K hK => ?_) AllReadyH.nil
          go_simp
          refine (CAT.out _ hHeld.2.2.2.2.2.2.2.2.2.2.2.2).mono ?_; rintro e w8 ⟨rfl, qb⟩
          try go_wp2_with fail
          refine hK.out _ _ (MK.out _ qb) ?_
          clear hK K hHeld
          intro hHeld
          clear qb
          try simp only [Act.put, List.getElem_toArray, List.getElem_cons_zero, List.getElem_cons_succ, List.setIfInBounds_toArray, List.set_cons_zero, List.set_cons_succ]
          refine wpAnyH_take (i := 13) rfl (by kernel_rfl) (by kernel_rfl) (by kernel_rfl) (fun _ _ _ h => h) (Or.inl ⟨by rfl, by intro W hSW; (try dsimp only at hSW); go_simp; try (with_reducible rfl)⟩) hHeld ?_
          try simp only [Act.put, List.getElem_toArray, List.getElem_cons_zero, List.getElem_cons_succ, List.setIfInBounds_toArray, List.set_cons_zero, List.set_cons_succ]
          refine wpAnyH_take (i := 14) rfl (by kernel_rfl) (by kernel_rfl) (by kernel_rfl) (fun _ _ _ h => h) (Or.inl ⟨by rfl, by intro W hSW; (try dsimp only at hSW); go_simp; try (with_reducible rfl)⟩) hHeld ?_
          try simp only [Act.put, List.getElem_toArray, List.getElem_cons_zero, List.getElem_cons_succ, List.setIfInBounds_toArray, List.set_cons_zero, List.set_cons_succ]
          refine wpAnyH_take (i := 15) rfl (by kernel_rfl) (by kernel_rfl) (by kernel_rfl) (fun _ _ _ h => h) (Or.inl ⟨by rfl, by intro W hSW; (try dsimp only at hSW); go_simp; try (with_reducible rfl)⟩) hHeld ?_
          try simp only [Act.put, List.getElem_toArray, List.getElem_cons_zero, List.getElem_cons_succ, List.setIfInBounds_toArray, List.set_cons_zero, List.set_cons_succ]
          refine wpAnyH_take (i := 16) rfl (by kernel_rfl) (by kernel_rfl) (by kernel_rfl) (fun _ _ _ h => h) (Or.inl ⟨by rfl, by intro W hSW; (try dsimp only at hSW); go_simp; try (with_reducible rfl)⟩) hHeld ?_
          try simp only [Act.put, List.getElem_toArray, List.getElem_cons_zero, List.getElem_cons_succ, List.setIfInBounds_toArray, List.set_cons_zero, List.set_cons_succ]
          refine wpAnyH_take (i := 18) rfl (by kernel_rfl) (by kernel_rfl) (by kernel_rfl) (fun _ _ _ h => h) (Or.inl ⟨by rfl, by intro W hSW; (try dsimp only at hSW); go_simp; try (with_reducible rfl)⟩) hHeld ?_
          try simp only [Act.put, List.getElem_toArray, List.getElem_cons_zero, List.getElem_cons_succ, List.setIfInBounds_toArray, List.set_cons_zero, List.set_cons_succ]
          refine wpAnyH_take (i := 19) rfl (by kernel_rfl) (by kernel_rfl) (by kernel_rfl) (fun _ _ _ h => h) (Or.inl ⟨by rfl, by intro W hSW; (try dsimp only at hSW); go_simp; try (with_reducible rfl)⟩) hHeld ?_
          try simp only [Act.put, List.getElem_toArray, List.getElem_cons_zero, List.getElem_cons_succ, List.setIfInBounds_toArray, List.set_cons_zero, List.set_cons_succ]
          refine wpAnyH_ready (rs := [17]) (by kernel_rfl) (by simp) ?_
          refine AllReadyH.cons rfl (fun K hK => ?_) AllReadyH.nil
          go_simp
          refine (CBA.out _ hHeld.2.2.2.2.2.2.2.2.2.2.2.2).mono ?_; rintro e w9 ⟨rfl, qb⟩
          try go_wp2_with fail
          refine hK.out _ _ (MK.out _ qb) ?_
          clear hK K hHeld
          intro hHeld
          clear qb
          try simp only [Act.put, List.getElem_toArray, List.getElem_cons_zero, List.getElem_cons_succ, List.setIfInBounds_toArray, List.set_cons_zero, List.set_cons_succ]
          refine wpAnyH_take (i := 20) rfl (by kernel_rfl) (by kernel_rfl) (by kernel_rfl) (fun _ _ _ h => h) (Or.inl ⟨by rfl, by intro W hSW; (try dsimp only at hSW); go_simp; try (with_reducible rfl)⟩) hHeld ?_
          try simp only [Act.put, List.getElem_toArray, List.getElem_cons_zero, List.getElem_cons_succ, List.setIfInBounds_toArray, List.set_cons_zero, List.set_cons_succ]
          refine wpAnyH_take (i := 21) rfl (by kernel_rfl) (by kernel_rfl) (by kernel_rfl) (fun _ _ _ h => h) (Or.inl ⟨by rfl, by intro W hSW; (try dsimp only at hSW); go_simp; try (with_reducible rfl)⟩) hHeld ?_
          try simp only [Act.put, List.getElem_toArray, List.getElem_cons_zero, List.getElem_cons_succ, List.setIfInBounds_toArray, List.set_cons_zero, List.set_cons_succ]
          refine wpAnyH_done (by kernel_rfl) ?_ _
          refine NoPanic.normal ?_
          go_wp2_with fail
          go_roundw
          case rel => exact ⟨i + 1, pp, ff, by omega, by go_num, Lib.hid (HR7.out.below hHeld.2.2.2.2.2.2.2.2.2.2.2.2 HR7.out.blk.lt), Lib.hid (HX7.out.below hHeld.2.2.2.2.2.2.2.2.2.2.2.2 HX7.out.lt), Lib.hid (HB7.out.trans (hHeld.2.2.2.2.2.2.2.2.2.2.2.2.mono HB7.out.size))⟩
          case measure => simp [intOf]; omega
        · obtain rfl : i = 9 := by omega
          have HGN := Lib.hid (fun W => getn_any W)
          unfold insC at HGN
          clear hi9 hi HR HX
          go_wp2_with fail
          refine (HGN.out _).mono ?_
          rintro e w5 ⟨rfl, hb⟩
          have HB5 := Lib.hid (HB.out.trans (hb.mono HB.out.size))
          have HK := Lib.hid (known08_any (w5.alloc (.cells #[.int .i64 0, .int .i64 0, .int .i64 0, .int .i64 0, .int .i64 0] 29)) (HT.out.below (HB5.out.alloc HB5.out.size _)))
          clear hb HGN HB
          go_wp2_with fail
          refine HK.out.mono ?_
          rintro e w6 ⟨rfl, hb⟩
          have HB6 := Lib.hid ((HB5.out.alloc HB5.out.size (.cells #[.int .i64 0, .int .i64 0, .int .i64 0, .int .i64 0, .int .i64 0] 29)).trans (hb.mono (by have := HB5.out.size; simp; omega)))
          clear hb HK HB5
          go_wp2_with fail
          go_ret
          exact ⟨rfl, HB6.out⟩
end Go.Proofs.YtieacapdfeljfaaDoor.By
