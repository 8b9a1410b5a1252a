/-
  WALKS of layer 6: the law QueueDrops: its first loop.
-/
import Derived.Test.YtajlbiohaafpnaaQv
namespace Go.Proofs.Ytajlbiohaafpnaa.Qu
open Go.RowKit Go.Maps
open Mem Hp

/-- Two queues of the call's own, apart from one another. -/
structure Two (B : Nat) (w w' : World) (a b : Nat) (U V : Nat → Prop) (n m : Nat) (S T : It → Prop) : Prop where
  qa : Qs w' a U n S
  qb : Qs w' b V m T
  ua : ∀ x, U x → B ≤ x
  vb : ∀ x, V x → B ≤ x
  apart : ∀ x, U x → ¬ V x
  ab : ¬ U b
  ba : ¬ V a
  bel : Below B w w'
  size : B ≤ w'.heap.size

theorem Two.symm {B : Nat} {w w' : World} {a b : Nat} {U V : Nat → Prop} {n m : Nat} {S T : It → Prop} (h : Two B w w' a b U V n m S T) : Two B w w' b a V U m n T S :=
  ⟨h.qb, h.qa, h.vb, h.ua, fun x hv hu => h.apart x hu hv, h.ba, h.ab, h.bel, h.size⟩

theorem Two.grow {B : Nat} {w w1 w2 : World} {a b : Nat} {U V : Nat → Prop} {n n' m : Nat} {S S' T : It → Prop} (h : Two B w w1 a b U V n m S T) (hq : Qs w2 a (Gr U w1 w2) n' S') (ht : Tn U w1 w2) : Two B w w2 a b (Gr U w1 w2) V n' m S' T := by
  have hbs := h.qb.lt
  refine ⟨hq, h.qb.kept ht (fun x hv hu => h.apart x hu hv) h.ab, fun x hx => ?_, h.vb, fun x hx hv => ?_, fun hx => ?_, h.ba, below_tn h.bel ht h.ua h.size, Nat.le_trans h.size ht.size⟩
  · rcases hx with hx | hx
    · exact h.ua x hx
    · have := h.size; omega
  · rcases hx with hx | hx
    · exact h.apart x hx hv
    · have := hbs.2 x hv; omega
  · rcases hx with hx | hx
    · exact h.ab hx
    · omega

theorem Two.turn {B : Nat} {w w1 w2 : World} {a b : Nat} {U V : Nat → Prop} {n n' m : Nat} {S S' T : It → Prop} (h : Two B w w1 a b U V n m S T) (hq : Qs w2 a U n' S') (ht : Tn U w1 w2) : Two B w w2 a b U V n' m S' T :=
  ⟨hq, h.qb.kept ht (fun x hv hu => h.apart x hu hv) h.ab, h.ua, h.vb, h.apart, h.ab, h.ba, below_tn h.bel ht h.ua h.size, Nat.le_trans h.size ht.size⟩

theorem two_new {w w1 w2 : World} {q : Nat} {U : Nat → Prop} (h : Own w.heap.size w w1 q U 0 (fun _ => False)) (hq : w.heap.size ≤ q) (h2 : Qs w2 (w1.heap.size + 2) (fun b => w1.heap.size ≤ b ∧ b < w1.heap.size + 2) 0 (fun _ => False)) (hb : Below w1.heap.size w1 w2) :
    Two w.heap.size w w2 q (w1.heap.size + 2) U (fun b => w1.heap.size ≤ b ∧ b < w1.heap.size + 2) 0 0 (fun _ => False) (fun _ => False) := by
  have hl := h.qs.lt
  have hs := h.size
  refine ⟨h.qs.below hb, h2, h.ge, fun x hx => by omega, fun x hu hv => ?_, fun hu => ?_, fun hv => by omega, h.bel.trans (hb.mono hs), Nat.le_trans hs hb.size⟩
  · have := hl.2 x hu; omega
  · have := hl.2 _ hu; omega

/-- A queue that is not empty has something. -/
theorem Qs.some {w : World} {q : Nat} {U : Nat → Prop} {n : Nat} {S : It → Prop} (h : Qs w q U (n + 1) S) : ∃ x, S x := by
  obtain ⟨⟨p, hb, f, hp, hh, hS⟩, _⟩ := h
  exact ⟨f 0, (hS _).2 ⟨0, by omega, rfl⟩⟩

theorem Two.below {B : Nat} {w w1 w2 : World} {a b : Nat} {U V : Nat → Prop} {n m : Nat} {S T : It → Prop} (h : Two B w w1 a b U V n m S T) (hb : Below w1.heap.size w1 w2) : Two B w w2 a b U V n m S T :=
  ⟨h.qa.below hb, h.qb.below hb, h.ua, h.vb, h.apart, h.ab, h.ba, h.bel.trans (hb.mono h.size), Nat.le_trans h.size hb.size⟩
theorem Two.drew {B : Nat} {w w1 : World} {a b : Nat} {U V : Nat → Prop} {n m : Nat} {S T : It → Prop} (h : Two B w w1 a b U V n m S T) : Two B w w1.drew a b U V n m S T := h.below (Below.refl _ _).drew

theorem Tn.cell {U : Nat → Prop} {w w' : World} (ht : Tn U w w') {p : Addr} {v : Value} (hc : w.cell? p = some v) (hu : ¬ U p.block) : w'.cell? p = some v :=
  (World.cell?_of_block (ht.block _ (World.block_lt_of_cell? w p hc) hu)).trans hc

set_option maxHeartbeats 4000000 in
set_option maxRecDepth 100000 in
theorem drops_law (w : World) (A : Option Addr) (len cap : Nat) (K : Nat → Int) (M : Nat → It) (id : Int) (hM : Moves w A len cap K M) (hid : In64 id) :
    Calls Try.prog 6 #[.slice A len cap, .int .i64 id] w fun e w' => e = .returned (.bool true) ∧ Below w.heap.size w w' := by
  by_cases hbig : 200 < len
  · have hd : decide (200 < (len : Int)) = true := by simp; omega
    clear hM hbig hid
    go_enter Try.func6, Try.ntmps6
    go_wp2_with fail
    refine (known_any _).mono ?_
    rintro e w1 ⟨rfl, hb⟩
    go_wp2_with fail
    go_ret
    exact ⟨rfl, hb⟩
  · have hl : len ≤ 200 := by omega
    have hd : decide (200 < (len : Int)) = false := by simp; omega
    have HM := Lib.hid hM
    have HID := Lib.hid hid
    clear hM hbig hid
    go_enter Try.func6, Try.ntmps6
    go_wp2_with fail
    refine (new_any w).mono ?_
    rintro e w0 ⟨rfl, hq0, hb0⟩
    have H0 := Lib.hid (own_new hq0 hb0)
    clear hq0 hb0
    generalize (fun b => w.heap.size ≤ b ∧ b < w.heap.size + 2) = U at H0
    have hqw : w.heap.size ≤ w.heap.size + 2 := by omega
    generalize hq : w.heap.size + 2 = q at H0 hqw ⊢
    have HQW := Lib.hid hqw
    clear hq hqw
    go_wp2_with fail
    refine (new_any w0).mono ?_
    rintro e w1 ⟨rfl, hq1, hb1⟩
    have H1 := Lib.hid (two_new H0.out HQW.out hq1 hb1)
    clear hq1 hb1 H0 HQW
    generalize (fun b => w0.heap.size ≤ b ∧ b < w0.heap.size + 2) = V at H1
    generalize hq : w0.heap.size + 2 = r at H1 ⊢
    clear hq
    go_wp2_with fail
    go_loopw [7] (fun v wr => ∃ (i n : Nat) (U V : Nat → Prop) (S : It → Prop), i ≤ len ∧ v = .int .i64 i ∧ n ≤ i ∧ Hid (Two w.heap.size w wr q r U V n n S S)) (fun v _ => len - (intOf v).toNat)
    case atStart => exact ⟨0, 0, U, V, _, by omega, rfl, by omega, H1⟩
    case round =>
      obtain ⟨i, n, U, V, S, hi, rfl, hni, HT⟩ := hrel
      clear H1
      by_cases hlt : i < len
      · obtain ⟨x, rfl, ⟨c0, c1, c2⟩, k0, k1, k2⟩ := (HM.out.below (HT.out.bel)).at_ hlt
        have HX := Lib.hid (And.intro k1 k2)
        clear c0 k0 k1 k2
        generalize hxm : M i = xm at c1 c2 HX
        clear hxm
        have hlt1 : (i : Int) < (len : Int) := by omega
        have hi0 : (0 : Int) ≤ (i : Int) := by omega
        have lx : (x.add (i * 3)).block < w.heap.size := by
          obtain ⟨x', e, ⟨h0, _, _⟩, _⟩ := HM.out.at_ hlt
          obtain rfl : x = x' := by injection e
          exact World.block_lt_of_cell? w _ h0
        have CC := Lib.hid (And.intro c1 c2)
        have XU : Hid (∀ U : Nat → Prop, (∀ y, U y → w.heap.size ≤ y) → ¬ U (x.add (i * 3)).block) := Lib.hid (fun U hU hx => by have := hU _ hx; omega)
        clear lx
        by_cases hy : ∃ y, S y ∧ y.1 = xm.1
        · obtain ⟨y, hy1, hy2⟩ := hy
          have HA := Lib.hid (put_no wr.drew q U n S HT.out.drew.qa xm.1 xm.2 y hy1 hy2)
          have HB := Lib.hid (put_no wr.drew.drew r V n S HT.out.drew.drew.qb xm.1 xm.2 y hy1 hy2)
          clear hy1 hy2
          go_wp2_with fail
          go_region_held3 (fun w' => w'.cell? ⟨(x.add (i * 3)).block, (x.add (i * 3)).off + 1, none⟩ = some (.int .i64 xm.1) ∧ w'.cell? ⟨(x.add (i * 3)).block, (x.add (i * 3)).off + 2, none⟩ = some (.int .i64 xm.2)) (first | go_keep)
            (first | (go_at_call 11; refine HA.out.mono ?_; rintro e w2 ⟨rfl, rfl⟩))
          go_wp2_with fail
          go_region_held3 (fun w' => w'.cell? ⟨(x.add (i * 3)).block, (x.add (i * 3)).off + 1, none⟩ = some (.int .i64 xm.1) ∧ w'.cell? ⟨(x.add (i * 3)).block, (x.add (i * 3)).off + 2, none⟩ = some (.int .i64 xm.2)) (first | go_keep)
            (first | (go_at_call 11; refine HB.out.mono ?_; rintro e w2 ⟨rfl, rfl⟩))
          go_wp2_with fail
          go_roundw
          case rel => exact ⟨i + 1, n, U, V, S, by omega, by go_num, by omega, Lib.hid HT.out.drew.drew⟩
          case measure => simp [intOf]; omega
        · have HY := Lib.hid (show ∀ y, S y → y.1 ≠ xm.1 from fun y h1 h2 => hy ⟨y, h1, h2⟩)
          have HA := Lib.hid (put_yes wr.drew q U n S HT.out.drew.qa xm HX.out (by omega) HY.out)
          have HB := Lib.hid (fun W hW => put_yes W r V n S hW xm HX.out (by omega) HY.out)
          clear hy
          go_wp2_with fail
          go_region_held3 (fun w' => w'.cell? ⟨(x.add (i * 3)).block, (x.add (i * 3)).off + 1, none⟩ = some (.int .i64 xm.1) ∧ w'.cell? ⟨(x.add (i * 3)).block, (x.add (i * 3)).off + 2, none⟩ = some (.int .i64 xm.2)) (first | go_keep | exact ⟨d1, d2⟩)
            (first | (go_at_call 11; refine HA.out.mono ?_; rintro e w2 ⟨rfl, hq2, ht2⟩; have d1 := ht2.cell (show wr.drew.cell? _ = _ from CC.out.1) (XU.out U HT.out.ua); have d2 := ht2.cell (show wr.drew.cell? _ = _ from CC.out.2) (XU.out U HT.out.ua)))
          have HT2 := Lib.hid (HT.out.drew.grow hq2 ht2)
          have CC2 := Lib.hid (And.intro d1 d2)
          clear hq2 ht2 c1 c2
          go_wp2_with fail
          go_region_held3 (fun w' => w'.cell? ⟨(x.add (i * 3)).block, (x.add (i * 3)).off + 1, none⟩ = some (.int .i64 xm.1) ∧ w'.cell? ⟨(x.add (i * 3)).block, (x.add (i * 3)).off + 2, none⟩ = some (.int .i64 xm.2)) (first | go_keep | exact ⟨e1, e2⟩)
            (first | (go_at_call 11; refine (HB.out _ HT2.out.drew.qb).mono ?_; rintro e w3 ⟨rfl, hq3, ht3⟩; have e1 := ht3.cell (show w2.drew.cell? _ = _ from CC2.out.1) (XU.out V HT.out.vb); have e2 := ht3.cell (show w2.drew.cell? _ = _ from CC2.out.2) (XU.out V HT.out.vb)))
          have HT3 := Lib.hid (HT2.out.drew.symm.grow hq3 ht3).symm
          clear hq3 ht3 d1 d2 e1 e2
          go_wp2_with fail
          go_roundw
          case rel => exact ⟨i + 1, n + 1, _, _, _, by omega, by go_num, by omega, HT3⟩
          case measure => simp [intOf]; omega
      · obtain rfl : i = len := by omega
        clear HM hlt
        have hpm : ∃ m, m ≤ i ∧ m = n := ⟨n, by omega, rfl⟩
        by_cases hy : ∃ y, S y ∧ y.1 = id
        · obtain ⟨y, hy1, hy2⟩ := hy
          subst hy2
          obtain ⟨m, rfl⟩ : ∃ m, n = m + 1 := by
            cases n with
            | zero => exact absurd hy1 (HT.out.qa.none y)
            | succ m => exact ⟨m, rfl⟩
          have HA := Lib.hid (key_yes wr q U (m + 1) S HT.out.qa y hy1)
          have HB := Lib.hid (drop_yes wr r V m S HT.out.qb y.1 y hy1 rfl)
          clear hy1 hpm
          generalize y.1 = id at HA HB HID ⊢
          go_wp2_with fail
          refine HA.out.mono ?_
          rintro e w' ⟨rfl, rfl⟩
          go_wp2_with fail
          refine HB.out.mono ?_
          rintro e wz ⟨rfl, hqz, htz⟩
          have HZ := Lib.hid (HT.out.symm.turn hqz htz).symm
          have hmi : m ≤ i := by omega
          clear hqz htz HT HA HB hni
          go_wp2_with fail
          go_loopw [10] (fun v wr => ∃ (k n m : Nat) (S T : It → Prop), k ≤ i + 1 ∧ v = .int .i64 k ∧ m + k ≤ i + 1 ∧ Hid (Two w.heap.size w wr q r U V n m S T) ∧ Hid (∀ z, T z ↔ S z ∧ z.1 ≠ id)) (fun v _ => i + 1 - (intOf v).toNat)
          case atStart => exact ⟨0, m + 1, m, S, fun z => S z ∧ z.1 ≠ id, by omega, rfl, by omega, HZ, Lib.hid (fun _ => Iff.rfl)⟩
          case round =>
            obtain ⟨k, n, m, S, T, hk, rfl, hmk, HT, HE⟩ := hrel
            clear HZ
            by_cases hlt : k ≤ i
            · have hlt1 : (k : Int) ≤ (i : Int) := by omega
              cases n with
              | zero =>
                obtain rfl : m = 0 := by
                  cases m with
                  | zero => rfl
                  | succ m =>
                    obtain ⟨z, hz⟩ := HT.out.qb.some
                    exact absurd ((HE.out z).1 hz).1 (HT.out.qa.none z)
                have HA := Lib.hid (take_no wr q U S HT.out.qa)
                have HB := Lib.hid (take_no wr r V T HT.out.qb)
                go_wp2_with fail
                refine HA.out.mono ?_
                rintro e w' ⟨rfl, rfl⟩
                go_wp2_with fail
                refine HB.out.mono ?_
                rintro e w' ⟨rfl, rfl⟩
                go_wp2_with fail
                go_roundw
                case rel => exact ⟨k + 1, 0, 0, S, T, by omega, by go_num, by omega, HT, HE⟩
                case measure => simp [intOf]; omega
              | succ n =>
                have HA := Lib.hid (take_yes wr q U n S HT.out.qa)
                go_wp2_with fail
                refine HA.out.mono ?_
                rintro e w1 ⟨x, rfl, hSx, hle, hq1, ht1⟩
                have HT1 := Lib.hid (HT.out.turn hq1 ht1)
                have HSX := Lib.hid hSx
                have HLE := Lib.hid hle
                clear hSx hle hq1 ht1 HA
                by_cases hx : x.1 = id
                · have hb : (x.1 == id) = true := by simpa using hx
                  have HX := Lib.hid hx
                  have HE1 : Hid (∀ z, T z ↔ S z ∧ z ≠ x) := Lib.hid (fun z => by
                    rw [HE.out]
                    constructor
                    · rintro ⟨h1, h2⟩; exact ⟨h1, fun e => h2 (by rw [e]; exact HX.out)⟩
                    · rintro ⟨h1, h2⟩; exact ⟨h1, fun e => h2 (HT.out.qa.inj h1 HSX.out (e.trans HX.out.symm))⟩)
                  clear hx
                  cases n with
                  | zero =>
                    obtain rfl : m = 0 := by
                      cases m with
                      | zero => rfl
                      | succ m =>
                        obtain ⟨z, hz⟩ := HT1.out.qb.some
                        exact absurd ((HE1.out z).1 hz) (HT1.out.qa.none z)
                    have HA := Lib.hid (take_no w1 q U _ HT1.out.qa)
                    have HB := Lib.hid (take_no w1 r V T HT1.out.qb)
                    go_wp2_with fail
                    refine HA.out.mono ?_
                    rintro e w' ⟨rfl, rfl⟩
                    go_wp2_with fail
                    refine HB.out.mono ?_
                    rintro e w' ⟨rfl, rfl⟩
                    go_wp2_with fail
                    go_roundw
                    case rel => exact ⟨k + 1, 0, 0, _, T, by omega, by go_num, by omega, HT1, Lib.hid (fun z => ⟨fun h => ⟨(HE1.out z).1 h, ((HE.out z).1 h).2⟩, fun h => (HE1.out z).2 h.1⟩)⟩
                    case measure => simp [intOf]; omega
                  | succ n =>
                    have HA := Lib.hid (take_yes w1 q U n _ HT1.out.qa)
                    go_wp2_with fail
                    refine HA.out.mono ?_
                    rintro e w2 ⟨x2, rfl, hSx, hle, hq2, ht2⟩
                    have HT2 := Lib.hid (HT1.out.turn hq2 ht2)
                    have HSX2 := Lib.hid hSx
                    have HLE2 := Lib.hid hle
                    clear hSx hle hq2 ht2 HA
                    cases m with
                    | zero => exact absurd ((HE1.out x2).2 HSX2.out) (HT1.out.qb.none x2)
                    | succ m =>
                      have HB := Lib.hid (take_yes w2 r V m T HT2.out.qb)
                      go_wp2_with fail
                      refine HB.out.mono ?_
                      rintro e w3 ⟨y, rfl, hTy, hle, hq3, ht3⟩
                      obtain rfl : y = x2 := le_antisymm (hle x2 ((HE1.out x2).2 HSX2.out)) (HLE2.out y ((HE1.out y).1 hTy))
                      have HT3 := Lib.hid (HT2.out.symm.turn hq3 ht3).symm
                      clear hTy hle hq3 ht3 HB
                      go_wp2_with fail
                      go_roundw
                      case rel => exact ⟨k + 1, n, m, _, _, by omega, by go_num, by omega, HT3, Lib.hid (fun z => ⟨fun h => ⟨⟨(HE1.out z).1 h.1, h.2⟩, ((HE.out z).1 h.1).2⟩, fun h => ⟨(HE1.out z).2 h.1.1, h.1.2⟩⟩)⟩
                      case measure => simp [intOf]; omega
                · have hb : (x.1 == id) = false := by simpa using hx
                  have HX := Lib.hid hx
                  clear hx
                  cases m with
                  | zero => exact absurd ((HE.out x).2 ⟨HSX.out, HX.out⟩) (HT.out.qb.none x)
                  | succ m =>
                    have HB := Lib.hid (take_yes w1 r V m T HT1.out.qb)
                    go_wp2_with fail
                    refine HB.out.mono ?_
                    rintro e w3 ⟨y, rfl, hTy, hle, hq3, ht3⟩
                    obtain rfl : y = x := le_antisymm (hle x ((HE.out x).2 ⟨HSX.out, HX.out⟩)) (HLE.out y ((HE.out y).1 hTy).1)
                    have HT3 := Lib.hid (HT1.out.symm.turn hq3 ht3).symm
                    clear hTy hle hq3 ht3 HB
                    go_wp2_with fail
                    go_roundw
                    case rel => exact ⟨k + 1, n, m, _, _, by omega, by go_num, by omega, HT3, Lib.hid (fun z => ⟨fun h => ⟨⟨((HE.out z).1 h.1).1, h.2⟩, ((HE.out z).1 h.1).2⟩, fun h => ⟨(HE.out z).2 ⟨h.1.1, h.2⟩, h.1.2⟩⟩)⟩
                    case measure => simp [intOf]; omega
            · obtain rfl : m = 0 := by omega
              have HL := Lib.hid (qlen_any wr r V 0 T HT.out.qb)
              have HK := Lib.hid (known_any wr)
              clear hk hmk
              go_wp2_with fail
              refine HL.out.mono ?_
              rintro e w' ⟨rfl, rfl⟩
              go_wp2_with fail
              refine HK.out.mono ?_
              rintro e w4 ⟨rfl, hb4⟩
              have HW := Lib.hid (HT.out.bel.trans (hb4.mono HT.out.size))
              clear hb4
              go_wp2_with fail
              go_ret
              exact ⟨rfl, HW.out⟩
        · have HY := Lib.hid (show ∀ y, S y → y.1 ≠ id from fun y h1 h2 => hy ⟨y, h1, h2⟩)
          have HA := Lib.hid (key_no wr q U n S HT.out.qa id HID.out HY.out)
          have HB := Lib.hid (drop_no wr r V n S HT.out.qb id HID.out HY.out)
          clear hy hpm
          go_wp2_with fail
          refine HA.out.mono ?_
          rintro e w' ⟨rfl, rfl⟩
          go_wp2_with fail
          refine HB.out.mono ?_
          rintro e w' ⟨rfl, rfl⟩
          have HZ := HT
          have HTS : Hid (∀ z, S z ↔ S z ∧ z.1 ≠ id) := Lib.hid (fun z => ⟨fun h => ⟨h, HY.out z h⟩, fun h => h.1⟩)
          clear HT HA HB HY
          go_wp2_with fail
          go_loopw [10] (fun v wr => ∃ (k n m : Nat) (S T : It → Prop), k ≤ i + 1 ∧ v = .int .i64 k ∧ m + k ≤ i + 1 ∧ Hid (Two w.heap.size w wr q r U V n m S T) ∧ Hid (∀ z, T z ↔ S z ∧ z.1 ≠ id)) (fun v _ => i + 1 - (intOf v).toNat)
          case atStart => exact ⟨0, _, _, _, _, by omega, rfl, by omega, HZ, HTS⟩
          case round =>
            obtain ⟨k, n, m, S, T, hk, rfl, hmk, HT, HE⟩ := hrel
            clear HZ HTS
            by_cases hlt : k ≤ i
            · have hlt1 : (k : Int) ≤ (i : Int) := by omega
              cases n with
              | zero =>
                obtain rfl : m = 0 := by
                  cases m with
                  | zero => rfl
                  | succ m =>
                    obtain ⟨z, hz⟩ := HT.out.qb.some
                    exact absurd ((HE.out z).1 hz).1 (HT.out.qa.none z)
                have HA := Lib.hid (take_no wr q U S HT.out.qa)
                have HB := Lib.hid (take_no wr r V T HT.out.qb)
                go_wp2_with fail
                refine HA.out.mono ?_
                rintro e w' ⟨rfl, rfl⟩
                go_wp2_with fail
                refine HB.out.mono ?_
                rintro e w' ⟨rfl, rfl⟩
                go_wp2_with fail
                go_roundw
                case rel => exact ⟨k + 1, 0, 0, S, T, by omega, by go_num, by omega, HT, HE⟩
                case measure => simp [intOf]; omega
              | succ n =>
                have HA := Lib.hid (take_yes wr q U n S HT.out.qa)
                go_wp2_with fail
                refine HA.out.mono ?_
                rintro e w1 ⟨x, rfl, hSx, hle, hq1, ht1⟩
                have HT1 := Lib.hid (HT.out.turn hq1 ht1)
                have HSX := Lib.hid hSx
                have HLE := Lib.hid hle
                clear hSx hle hq1 ht1 HA
                by_cases hx : x.1 = id
                · have hb : (x.1 == id) = true := by simpa using hx
                  have HX := Lib.hid hx
                  have HE1 : Hid (∀ z, T z ↔ S z ∧ z ≠ x) := Lib.hid (fun z => by
                    rw [HE.out]
                    constructor
                    · rintro ⟨h1, h2⟩; exact ⟨h1, fun e => h2 (by rw [e]; exact HX.out)⟩
                    · rintro ⟨h1, h2⟩; exact ⟨h1, fun e => h2 (HT.out.qa.inj h1 HSX.out (e.trans HX.out.symm))⟩)
                  clear hx
                  cases n with
                  | zero =>
                    obtain rfl : m = 0 := by
                      cases m with
                      | zero => rfl
                      | succ m =>
                        obtain ⟨z, hz⟩ := HT1.out.qb.some
                        exact absurd ((HE1.out z).1 hz) (HT1.out.qa.none z)
                    have HA := Lib.hid (take_no w1 q U _ HT1.out.qa)
                    have HB := Lib.hid (take_no w1 r V T HT1.out.qb)
                    go_wp2_with fail
                    refine HA.out.mono ?_
                    rintro e w' ⟨rfl, rfl⟩
                    go_wp2_with fail
                    refine HB.out.mono ?_
                    rintro e w' ⟨rfl, rfl⟩
                    go_wp2_with fail
                    go_roundw
                    case rel => exact ⟨k + 1, 0, 0, _, T, by omega, by go_num, by omega, HT1, Lib.hid (fun z => ⟨fun h => ⟨(HE1.out z).1 h, ((HE.out z).1 h).2⟩, fun h => (HE1.out z).2 h.1⟩)⟩
                    case measure => simp [intOf]; omega
                  | succ n =>
                    have HA := Lib.hid (take_yes w1 q U n _ HT1.out.qa)
                    go_wp2_with fail
                    refine HA.out.mono ?_
                    rintro e w2 ⟨x2, rfl, hSx, hle, hq2, ht2⟩
                    have HT2 := Lib.hid (HT1.out.turn hq2 ht2)
                    have HSX2 := Lib.hid hSx
                    have HLE2 := Lib.hid hle
                    clear hSx hle hq2 ht2 HA
                    cases m with
                    | zero => exact absurd ((HE1.out x2).2 HSX2.out) (HT1.out.qb.none x2)
                    | succ m =>
                      have HB := Lib.hid (take_yes w2 r V m T HT2.out.qb)
                      go_wp2_with fail
                      refine HB.out.mono ?_
                      rintro e w3 ⟨y, rfl, hTy, hle, hq3, ht3⟩
                      obtain rfl : y = x2 := le_antisymm (hle x2 ((HE1.out x2).2 HSX2.out)) (HLE2.out y ((HE1.out y).1 hTy))
                      have HT3 := Lib.hid (HT2.out.symm.turn hq3 ht3).symm
                      clear hTy hle hq3 ht3 HB
                      go_wp2_with fail
                      go_roundw
                      case rel => exact ⟨k + 1, n, m, _, _, by omega, by go_num, by omega, HT3, Lib.hid (fun z => ⟨fun h => ⟨⟨(HE1.out z).1 h.1, h.2⟩, ((HE.out z).1 h.1).2⟩, fun h => ⟨(HE1.out z).2 h.1.1, h.1.2⟩⟩)⟩
                      case measure => simp [intOf]; omega
                · have hb : (x.1 == id) = false := by simpa using hx
                  have HX := Lib.hid hx
                  clear hx
                  cases m with
                  | zero => exact absurd ((HE.out x).2 ⟨HSX.out, HX.out⟩) (HT.out.qb.none x)
                  | succ m =>
                    have HB := Lib.hid (take_yes w1 r V m T HT1.out.qb)
                    go_wp2_with fail
                    refine HB.out.mono ?_
                    rintro e w3 ⟨y, rfl, hTy, hle, hq3, ht3⟩
                    obtain rfl : y = x := le_antisymm (hle x ((HE.out x).2 ⟨HSX.out, HX.out⟩)) (HLE.out y ((HE.out y).1 hTy).1)
                    have HT3 := Lib.hid (HT1.out.symm.turn hq3 ht3).symm
                    clear hTy hle hq3 ht3 HB
                    go_wp2_with fail
                    go_roundw
                    case rel => exact ⟨k + 1, n, m, _, _, by omega, by go_num, by omega, HT3, Lib.hid (fun z => ⟨fun h => ⟨⟨((HE.out z).1 h.1).1, h.2⟩, ((HE.out z).1 h.1).2⟩, fun h => ⟨(HE.out z).2 ⟨h.1.1, h.2⟩, h.1.2⟩⟩)⟩
                    case measure => simp [intOf]; omega
            · obtain rfl : m = 0 := by omega
              have HL := Lib.hid (qlen_any wr r V 0 T HT.out.qb)
              have HK := Lib.hid (known_any wr)
              clear hk hmk
              go_wp2_with fail
              refine HL.out.mono ?_
              rintro e w' ⟨rfl, rfl⟩
              go_wp2_with fail
              refine HK.out.mono ?_
              rintro e w4 ⟨rfl, hb4⟩
              have HW := Lib.hid (HT.out.bel.trans (hb4.mono HT.out.size))
              clear hb4
              go_wp2_with fail
              go_ret
              exact ⟨rfl, HW.out⟩
end Go.Proofs.Ytajlbiohaafpnaa.Qu
