/-
  WALKS of layer 28: Same.
-/
import Derived.Test.YtnenmgefgdpkdaaTf
namespace Go.Proofs.Ytnenmgefgdpkdaa.Bo
open Go.RowKit Go.Maps
open Mem Rf
set_option linter.unusedSimpArgs false
set_option linter.unusedVariables false

set_option maxRecDepth 100000 in
set_option maxHeartbeats 2000000 in
theorem same28_any (w : World) (p q : Pn) (hp : PnR w p) (hq : PnR w q) (hk : p.ks = q.ks) (hc : p.cs = q.cs) (hn : p.kn ≤ 1000) (hm : p.cn ≤ 1000) :
    Calls Try.prog 16 #[pnV p, pnV q] w fun e w' => e = .returned (.bool true) ∧ Below w.heap.size w w' := by
  obtain ⟨kA, kn, kc, ks, cA, cn, cc, cs⟩ := p
  obtain ⟨jA, jn, jc, js, dA, dn, dc, ds⟩ := q
  dsimp only at hk hc hn hm
  subst hk hc
  obtain rfl : kn = jn := hp.k.1.symm.trans hq.k.1
  obtain rfl : cn = dn := hp.c.1.symm.trans hq.c.1
  have HK := Lib.hid (fun W (hb : Below w.heap.size w W) a (ha : a < kn) => (hp.k.on hb).at_ ha)
  have HJ := Lib.hid (fun W (hb : Below w.heap.size w W) a (ha : a < kn) => (hq.k.on hb).at_ ha)
  have HC := Lib.hid (fun W (hb : Below w.heap.size w W) a (ha : a < cn) => (hp.c.on hb).at_ ha)
  have HD := Lib.hid (fun W (hb : Below w.heap.size w W) a (ha : a < cn) => (hq.c.on hb).at_ ha)
  clear hp hq
  unfold pnV
  dsimp only at HK HJ HC HD ⊢
  obtain ⟨W0, hW0⟩ : ∃ W0, (w.alloc (.cells #[.slice kA kn kc, .slice cA cn cc] 29)).alloc (.cells #[.slice jA kn jc, .slice dA cn dc] 29) = W0 := ⟨_, rfl⟩
  have HB0 := Lib.hid (show Below w.heap.size w W0 from by rw [← hW0]; exact to_ (alloc_ _ _) (alloc_ _ _))
  have hk1 : Blk W0 w.heap.size 29 #[.slice kA kn kc, .slice cA cn cc] := by rw [← hW0]; exact (Blk.new _ _ _).alloc _
  have hk2 : Blk W0 (w.heap.size + 1) 29 #[.slice jA kn jc, .slice dA cn dc] := by
    rw [← hW0]
    have := Blk.new (w.alloc (.cells #[.slice kA kn kc, .slice cA cn cc] 29)) 29 #[.slice jA kn jc, .slice dA cn dc]
    rwa [World.size_alloc] at this
  have HX := Lib.hid (show ∀ W, Below W0.heap.size W0 W → W.cell? ⟨w.heap.size, 0, none⟩ = some (.slice kA kn kc) ∧ W.cell? ⟨w.heap.size, 1, none⟩ = some (.slice cA cn cc) ∧ W.cell? ⟨w.heap.size + 1, 0, none⟩ = some (.slice jA kn jc) ∧ W.cell? ⟨w.heap.size + 1, 1, none⟩ = some (.slice dA cn dc) from fun W hb => ⟨(hk1.below hb hk1.lt).cell 0, (hk1.below hb hk1.lt).cell 1, (hk2.below hb hk2.lt).cell 0, (hk2.below hb hk2.lt).cell 1⟩)
  clear hk1 hk2
  obtain ⟨x0, x1, x2, x3⟩ := HX.out W0 (Below.refl _ _)
  go_enter Try.func16, Try.ntmps16
  go_wp2_with fail
  clear hW0 x0 x1 x2 x3
  go_loopw [5] (fun i wr => ∃ k : Nat, k ≤ kn ∧ i = .int .i64 (k : Int) ∧ Below W0.heap.size W0 wr) (fun i _ => kn - (intOf i).toNat)
  case atStart => exact ⟨0, Nat.zero_le _, rfl, Below.refl _ _⟩
  case round =>
    obtain ⟨k, hk, rfl, hbel⟩ := hrel
    obtain ⟨x0, x1, x2, x3⟩ := HX.out wr hbel
    have HBE := Lib.hid hbel
    have HBW := Lib.hid (to_ HB0.out hbel)
    clear hbel
    by_cases hlt : k < kn
    · have hI : (k : Int) < (kn : Int) := by omega
      have hk0 : (0 : Int) ≤ (k : Int) := by omega
      obtain ⟨ad, rfl, h1, y1⟩ := HK.out wr HBW.out k hlt
      obtain ⟨ae, rfl, h2, y2⟩ := HJ.out wr HBW.out k hlt
      obtain ⟨b, hb⟩ : ∃ b, ks.getD k false = b := ⟨_, rfl⟩
      rw [hb] at y1 y2
      clear hb
      go_wp2_with fail
      go_quiet (fail)
      go_wp2_with fail
      go_roundw
      case rel => exact ⟨k + 1, by omega, by go_num, below_drewN HBE.out _⟩
      case measure => simp [intOf]; omega
    · obtain rfl : k = kn := by omega
      obtain ⟨wz, hwz⟩ : ∃ wz, wz = wr := ⟨_, rfl⟩
      subst hwz
      go_wp2_with fail
      clear x0 x1 x2 x3
      go_loopw [6] (fun i wr => ∃ j : Nat, j ≤ cn ∧ i = .int .i64 (j : Int) ∧ Below W0.heap.size W0 wr) (fun i _ => cn - (intOf i).toNat)
      case atStart => exact ⟨0, Nat.zero_le _, rfl, HBE.out⟩
      case round =>
        obtain ⟨j, hj, rfl, hbel⟩ := hrel
        obtain ⟨x0, x1, x2, x3⟩ := HX.out wr hbel
        have HBE := Lib.hid hbel
        have HBW := Lib.hid (to_ HB0.out hbel)
        clear hbel
        by_cases hlt : j < cn
        · have hI : (j : Int) < (cn : Int) := by omega
          have hk0 : (0 : Int) ≤ (j : Int) := by omega
          obtain ⟨ad, rfl, h1, y1⟩ := HC.out wr HBW.out j hlt
          obtain ⟨ae, rfl, h2, y2⟩ := HD.out wr HBW.out j hlt
          obtain ⟨b, hb⟩ : ∃ b, cs.getD j 0 = b := ⟨_, rfl⟩
          rw [hb] at y1 y2
          clear hb
          go_wp2_with fail
          go_quiet (fail)
          go_wp2_with fail
          go_roundw
          case rel => exact ⟨j + 1, by omega, by go_num, below_drewN HBE.out _⟩
          case measure => simp [intOf]; omega
        · obtain rfl : j = cn := by omega
          go_wp2_with fail
          go_ret
          exact ⟨rfl, HBW.out⟩
end Go.Proofs.Ytnenmgefgdpkdaa.Bo
