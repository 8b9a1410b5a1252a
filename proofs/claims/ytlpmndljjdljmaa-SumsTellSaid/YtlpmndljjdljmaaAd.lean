/-
  WALK: sum's Add: the adder has the bytes behind those it had; of nobody's adders nothing turns.
-/
import Derived.Test.YtlpmndljjdljmaaSu
import Derived.RegionTactic
import Derived.BigRegion
namespace Go.Proofs.Ytlpmndljjdljmaa.By
open Go.ChangeShapes Go.WideShapes Go.ChangeAt Go.RowKit
open Mem Sm

theorem add_nil (w : World) (v : Value) : Calls Try.prog 25 #[.pointer none, v] w fun e w' => e = .returned (.tuple #[]) ∧ w = w' := by
  go_enter Try.func25, Try.ntmps25
  go_wp2_with (go_at_call 38; refine (nobody_nil _).mono ?_; rintro e w' ⟨rfl, rfl⟩)
  refine bodyPost_ret (results_none rfl _ _ _) rfl ?_
  exact ⟨rfl, rfl⟩

theorem add_odd (w : World) (g : Nat) (h : Odd w g) (v : Value) : Calls Try.prog 25 #[.pointer (some ⟨g, 0, none⟩), v] w fun e w' => e = .returned (.tuple #[]) ∧ w = w' := by
  have H := Lib.hid (nobody_any w g false (by rw [Blk.cell h]; rfl))
  clear h
  go_enter Try.func25, Try.ntmps25
  go_wp2_with (go_at_call 38; refine H.out.mono ?_; rintro e w' ⟨rfl, rfl⟩)
  refine bodyPost_ret (results_none rfl _ _ _) rfl ?_
  exact ⟨rfl, rfl⟩

set_option maxHeartbeats 1000000 in
theorem add_row (w : World) (g : Nat) (l m : List UInt8) (ad : Addr) (c : Nat) (h : Adr w g l) (hc : m.length ≤ c) (hm : c ≤ maxLen) (hr : ∀ j (hj : j < m.length), ad.block ≠ g ∧ w.cell? (ad.add j) = some (.int .u8 (m[j].toNat : Int))) :
    Calls Try.prog 25 #[.pointer (some ⟨g, 0, none⟩), .slice (some ad) m.length c] w fun e w' => e = .returned (.tuple #[]) ∧ Adr w' g (l ++ m) ∧ w.grownBy w' (some g) := by
  have H := Lib.hid (nobody_any w g true (by rw [Blk.cell h]; rfl))
  have HR := Lib.hid hr
  have HA := Lib.hid h
  unfold maxLen at hm
  clear h hr
  obtain ⟨n, hn⟩ : ∃ n, m.length = n := ⟨_, rfl⟩
  have HN := Lib.hid hn
  rw [hn] at hc
  rw [hn]
  clear hn
  go_enter Try.func25, Try.ntmps25
  go_wp2_with (go_at_call 38; refine H.out.mono ?_; rintro e w' ⟨rfl, rfl⟩)
  go_loopw [10] (fun i wr => ∃ k : Nat, k ≤ n ∧ i = .int .i64 k ∧ Hid (Adr wr g (l ++ m.take k)) ∧ Hid (w.grownBy wr (some g))) (fun i _ => n - (intOf i).toNat)
  case atStart => exact ⟨0, by omega, rfl, Lib.hid (by simpa using HA.out), Lib.hid (only_refl _ _)⟩
  case round =>
    obtain ⟨k, hk, rfl, HB, HG⟩ := hrel
    by_cases hlt : k < n
    · have hkm : k < m.length := by rw [HN.out]; exact hlt
      have hx := (HR.out k hkm).2
      have hne := (HR.out k hkm).1
      have hbl : ad.block < w.heap.size := by have := World.block_lt_of_cell? w _ hx; rwa [add_block] at this
      have hx2 : wr.cell? (ad.add k) = some (.int .u8 (m[k].toNat : Int)) :=
        (World.cell?_of_block (HG.out.block (ad.add k).block (by rwa [add_block]) (fun e => hne (by rw [add_block] at e; injection e with e)))).trans hx
      have c0 : wr.cell? ⟨g, 0, none⟩ = some (.int .i64 ((sm (l ++ m.take k)).1 : Int)) := by rw [Blk.cell HB.out]; rfl
      have c1 : wr.cell? ⟨g, 1, none⟩ = some (.int .i64 ((sm (l ++ m.take k)).2 : Int)) := by rw [Blk.cell HB.out]; rfl
      have f0 := Blk.frozen HB.out 0
      have f1 := Blk.frozen HB.out 1
      have hlm := sm_lt (l ++ m.take k)
      have hb := m[k].toNat_lt
      have N1 := Lib.hid (next1 l m k hkm)
      have N2 := Lib.hid (next2 l m k hkm)
      have hl1 := hlm.1
      have hl2 := hlm.2
      have HS := Lib.hid (show ∀ x y : Int, Blk ((wr.setCell ⟨g, 0, none⟩ (.int .i64 x)).setCell ⟨g, 1, none⟩ (.int .i64 y)) g 51 #[.int .i64 x, .int .i64 y, .bool true] from fun x y => by
        have := (Blk.stored HB.out 0 (.int .i64 x)).stored 1 (.int .i64 y)
        simpa using this)
      clear hx hne hlm hbl HB
      generalize m[k].toNat = y at hx2 hb N1
      clear hkm
      generalize (sm (l ++ m.take k)).1 = a at c0 hl1 N1
      generalize (sm (l ++ m.take k)).2 = b at c1 hl2 N2
      go_wp2
      go_region
      go_wp2
      go_roundw
      case rel =>
        refine ⟨k + 1, by omega, by go_num, Lib.hid ?_, Lib.hid (only_drewN (only_set (only_set HG.out 0 _) 1 _) 1)⟩
        have e1 : (((a : Int) + y) % 65521) = ((sm (l ++ m.take (k + 1))).1 : Int) := by rw [N1.out]; omega
        have e2 : (((b : Int) + (a + y)) % 65521) = ((sm (l ++ m.take (k + 1))).2 : Int) := by rw [N2.out, N1.out]; omega
        rw [e1, e2]
        exact HS.out _ _
      case measure => simp [intOf]; omega
    · obtain rfl : k = n := by omega
      go_wp2
      go_end0
      refine ⟨rfl, ?_, HG.out⟩
      have := HB.out
      rwa [List.take_of_length_le (by have := HN.out; omega)] at this

theorem slv_far {w : World} {B g : Nat} {v : Value} {vs : List Value} (hs : SlV w B v vs) (hB : B ≤ g) : ∀ ad n c, v = .slice (some ad) n c → n ≠ 0 → ad.block ≠ g := by
  intro ad n c e hn
  subst e
  rcases hs.inv with ⟨h, _⟩ | ⟨a, e, h2, _, _, hr⟩
  · cases h
  · injection e with e
    subst e
    have := (hr 0 _ (List.getElem?_eq_getElem (by omega))).1
    omega

/-- Add, of any bytes whose row lies in another block than the adder. -/
theorem add_any (w : World) (g : Nat) (l m : List UInt8) (B : Nat) (v : Value) (h : Adr w g l) (hs : SlV w B v (u8s m)) (hne : ∀ ad n c, v = .slice (some ad) n c → n ≠ 0 → ad.block ≠ g) :
    Calls Try.prog 25 #[.pointer (some ⟨g, 0, none⟩), v] w fun e w' => e = .returned (.tuple #[]) ∧ Adr w' g (l ++ m) ∧ w.grownBy w' (some g) := by
  generalize hv : u8s m = vs at hs
  cases hs with
  | nil =>
    obtain rfl : m = [] := by cases m with
      | nil => rfl
      | cons x m => simp [u8s] at hv
    rw [List.append_nil]
    have H := Lib.hid (nobody_any w g true (by rw [Blk.cell h]; rfl))
    have HA := Lib.hid h
    clear h hv hne
    go_enter Try.func25, Try.ntmps25
    go_wp2_with (go_at_call 38; refine H.out.mono ?_; rintro e w' ⟨rfl, rfl⟩)
    refine wp_loop_rounds 1 ?_
    repeat (rw [rounds_succ]; go_wp2_with fail)
    go_end0
    exact ⟨rfl, HA.out, only_refl _ _⟩
  | at_ ad cap _ hc hm hr =>
    subst hv
    have hl : (u8s m).length = m.length := u8s_length m
    rw [hl] at hc ⊢
    refine add_row w g l m ad cap h hc hm fun j hj => ?_
    have := hr j (.int .u8 (m[j].toNat : Int)) (by simp [u8s, hj])
    exact ⟨hne _ _ _ rfl (by omega), this.2⟩
end Go.Proofs.Ytlpmndljjdljmaa.By
