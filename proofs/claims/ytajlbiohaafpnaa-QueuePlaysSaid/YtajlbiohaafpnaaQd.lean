/-
  WALKS of layer 6: the queue's Drop.
-/
import Derived.Test.YtajlbiohaafpnaaQs
namespace Go.Proofs.Ytajlbiohaafpnaa.Qu
open Go.RowKit Go.Maps
open Mem Hp

def DropPost (w : World) (q : Nat) (U : Nat → Prop) (n : Nat) (S : It → Prop) (a : Int) (e : Ending) (w' : World) : Prop :=
  e = .returned (.bool true) ∧ Qs w' q U n (fun y => S y ∧ y.1 ≠ a) ∧ Tn U w w'

set_option maxHeartbeats 4000000 in
set_option maxRecDepth 100000 in
theorem drop_yes (w : World) (q : Nat) (U : Nat → Prop) (n : Nat) (S : It → Prop) (h : Qs w q U (n + 1) S) (a : Int) (x : It) (hx : S x) (ha : x.1 = a) :
    Calls Try.prog 14 #[.pointer (some ⟨q, 0, none⟩), .int .i64 a] w (DropPost w q U n S a) := by
  subst ha
  have hin := h.inn hx
  have HQ := Lib.hid h
  obtain ⟨⟨p, hb, f, ⟨m, v, D, hp⟩, hh, hS⟩, hqu⟩ := h
  obtain ⟨i, hi, rfl⟩ := (hS x).1 hx
  rcases look_eq w m (n + 1) D f hp.map hp.is (f i).1 hin.1 with ⟨k, hk, e, hrun⟩ | ⟨hno, _⟩
  · obtain rfl := hp.is.inj hk hi e
    have HF := Lib.hid (find_yes w q p m _ k _ hb hp.blk hrun)
    have HB := Lib.hid hb
    have HP : Hid (Pile w p U (n + 1) (n + 1) f) := Lib.hid ⟨m, v, D, hp⟩
    have HR := Lib.hid (fun W hW => hremove_any W p U n S f hW hh hS k hk)
    have HX := Lib.hid hx
    have c0 : w.cell? ⟨q, 0, none⟩ = some (.pointer (some ⟨p, 0, none⟩)) := by rw [hb.cell]; rfl
    have hqlt := hb.lt
    have few := hp.few
    generalize hfk : f k = x at HF HR HX ⊢
    clear hb hp hh hS hrun e hx hin hfk
    go_enter Try.func14, Try.ntmps14
    go_wp2_with fail
    refine HF.out.mono ?_
    rintro e w' ⟨rfl, rfl⟩
    go_wp2_with fail
    go_region_held3 (fun w' => w'.cell? ⟨q, 0, none⟩ = some (.pointer (some ⟨p, 0, none⟩))) (first | go_keep | assumption)
      (first
      | (go_at_call 22; refine (HR.out _ (HP.out.below (Below.refl _ _).drew)).mono ?_; rintro e w1 ⟨y, rfl, hxy, ⟨g, hp1, hh1, hgx, hS1⟩, ht1⟩; subst hgx; have HXY := Lib.hid hxy; clear hxy; have d0 : w1.cell? ⟨q, 0, none⟩ = some (.pointer (some ⟨p, 0, none⟩)) := (World.cell?_of_block (ht1.block q hqlt hqu)).trans (by first | exact c0 | go_keep))
      | (go_at_call 20; refine (forget_any _ p U n g hp1).mono ?_; rintro e w2 ⟨rfl, hp2, ht2⟩; have hq1 : q < w1.heap.size := World.block_lt_of_cell? w1 _ d0; have d1 : w2.cell? ⟨q, 0, none⟩ = some (.pointer (some ⟨p, 0, none⟩)) := (World.cell?_of_block (ht2.block q hq1 hqu)).trans (by first | exact d0 | go_keep)))
    have HT2 := Lib.hid (((Tn.refl U w).drew.andThen ht1).andThen ht2)
    have HE := Lib.hid (forgot HB.out hqu hp1 hh1 hS1 hp2 HT2.out)
    clear hp1 hh1 hS1 ht1 hp2 ht2 d0 d1 c0
    go_wp2_with fail
    go_ret
    refine ⟨rfl, HE.out.congr fun y => ?_, HT2.out⟩
    show (S y ∧ y ≠ g n) ↔ _
    rw [show g n = x from HXY.out]
    constructor
    · rintro ⟨h1, h2⟩
      exact ⟨h1, fun e => h2 (HQ.out.inj h1 HX.out e)⟩
    · rintro ⟨h1, h2⟩
      exact ⟨h1, fun e => h2 (by rw [e])⟩
  · exact absurd rfl (hno i hi)

theorem drop_no (w : World) (q : Nat) (U : Nat → Prop) (n : Nat) (S : It → Prop) (h : Qs w q U n S) (a : Int) (ha : In64 a) (hx : ∀ y, S y → y.1 ≠ a) :
    Calls Try.prog 14 #[.pointer (some ⟨q, 0, none⟩), .int .i64 a] w fun e w' => e = .returned (.bool false) ∧ w = w' := by
  obtain ⟨⟨p, hb, f, ⟨m, v, D, hp⟩, hh, hS⟩, hqu⟩ := h
  rcases look_eq w m n D f hp.map hp.is a ha with ⟨k, hk, e, hrun⟩ | ⟨_, hrun⟩
  · exact absurd e (hx (f k) ((hS _).2 ⟨k, hk, rfl⟩))
  · have HF := Lib.hid (find_no w q p m v a hb hp.blk hrun)
    clear hb hp hh hS hqu hrun hx ha
    go_enter Try.func14, Try.ntmps14
    go_wp2_with fail
    refine HF.out.mono ?_
    rintro e w' ⟨rfl, rfl⟩
    go_wp2_with fail
    go_ret
    exact ⟨rfl, rfl⟩
end Go.Proofs.Ytajlbiohaafpnaa.Qu
