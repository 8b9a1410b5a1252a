/-
  WALKS of layer 13: the document's own At.
-/
import Derived.Test.YtckpbdphilifoaaWb
namespace Go.Proofs.Ytckpbdphilifoaa.By
open Go.RowKit
open Mem Gm Rf

theorem blk_put4 {w : World} {g : Nat} {t : TypeId} {a b c d : Value} (h : Blk w g t #[a, b, c, d]) (a' b' c' d' : Value) : Blk ((((w.setCell ⟨g, 0, none⟩ a').setCell ⟨g, 1, none⟩ b').setCell ⟨g, 2, none⟩ c').setCell ⟨g, 3, none⟩ d') g t #[a', b', c', d'] :=
  (((h.stored 0 a').stored 1 b').stored 2 c').stored 3 d'
theorem blk_away {w : World} {g : Nat} {t : TypeId} {cs : Array Value} (h : Blk w g t cs) (p : Addr) (u : Value) (hne : g ≠ p.block) : Blk (w.setCell p u) g t cs := (Below.heap_setCell w p u g hne).trans h
theorem blk_away4 {w : World} {g : Nat} {t : TypeId} {cs : Array Value} (h : Blk w g t cs) (g' : Nat) (a b c d : Value) (hne : g ≠ g') : Blk ((((w.setCell ⟨g', 0, none⟩ a).setCell ⟨g', 1, none⟩ b).setCell ⟨g', 2, none⟩ c).setCell ⟨g', 3, none⟩ d) g t cs :=
  blk_away (blk_away (blk_away (blk_away h _ _ hne) _ _ hne) _ _ hne) _ _ hne
theorem below_put4 {B : Nat} {w0 w : World} (h : Below B w0 w) (g : Nat) (hg : B ≤ g) (a b c d : Value) : Below B w0 ((((w.setCell ⟨g, 0, none⟩ a).setCell ⟨g, 1, none⟩ b).setCell ⟨g, 2, none⟩ c).setCell ⟨g, 3, none⟩ d) :=
  (((h.setCell (p := ⟨g, 0, none⟩) hg _).setCell (p := ⟨g, 1, none⟩) hg _).setCell (p := ⟨g, 2, none⟩) hg _).setCell (p := ⟨g, 3, none⟩) hg _

/-- The row of the last of the first k runs. -/
def lastRo (l : List Rn) (k : Nat) : Ro := if k = 0 then ro0 else (rnAt l (k - 1)).2
theorem lastRo_next (l : List Rn) (k : Nat) : lastRo l (k + 1) = (rnAt l k).2 := by unfold lastRo; rw [if_neg (by omega), Nat.add_sub_cancel]

set_option maxRecDepth 100000 in
set_option maxHeartbeats 2000000 in
theorem rat_any (w : World) (p : Int) (A : Option Addr) (n c : Nat) (l : List Rn) (h : RnL w A n c l) :
    Calls Try.prog 17 #[.slice A n c, .int .i64 p] w (AtAns w l p) := by
  have hn := h.few
  obtain ⟨W, hW⟩ : ∃ W, (w.alloc (.cells #[.int .i64 0, .int .i64 0, .bool false, .int .i64 0] 33)).alloc (.cells #[.int .i64 0, .int .i64 0, .bool false, .int .i64 0] 33) = W := ⟨_, rfl⟩
  have hB : Below w.heap.size w W := by rw [← hW]; exact to_ (alloc_ _ _) (alloc_ _ _)
  have hb0 : Blk W w.heap.size 33 #[.int .i64 0, .int .i64 0, .bool false, .int .i64 0] := by rw [← hW]; exact (Blk.new w _ _).alloc _
  have hb1 : Blk W (w.heap.size + 1) 33 #[.int .i64 0, .int .i64 0, .bool false, .int .i64 0] := by
    rw [← hW]; have := Blk.new (w.alloc (.cells #[.int .i64 0, .int .i64 0, .bool false, .int .i64 0] 33)) 33 #[.int .i64 0, .int .i64 0, .bool false, .int .i64 0]; rwa [World.size_alloc] at this
  have HW0 := Lib.hid (show Blk W w.heap.size 33 #[.int .i64 0, .int .i64 0, .bool false, .int .i64 0] ∧ Blk W (w.heap.size + 1) 33 #[.int .i64 0, .int .i64 0, .bool false, .int .i64 0] ∧ Below w.heap.size w W from ⟨hb0, hb1, hB⟩)
  obtain ⟨f0, f1, f2, f3⟩ := Blk.fr4 hb1
  obtain ⟨k0, k1, k2, k3⟩ := Blk.ce4 hb1
  have HR := Lib.hid (fun W (hb : Below w.heap.size w W) i (hi : i < n) => (h.on hb).at_ hi)
  have HL := Lib.hid (show l.length = n from h.1)
  clear hB h hb0 hb1
  go_enter Try.func17, Try.ntmps17
  go_wp2_with fail
  clear f0 f1 f2 f3 k0 k1 k2 k3 hW
  have HV := Lib.hid (show ∀ k, bg l p = k → rowV l p = lastRo l k ∧ hasV l p = decide (0 < k) from fun k hk => by unfold rowV hasV lastRo; rw [hk]; exact ⟨rfl, rfl⟩)
  go_loopw [7, 8] (fun ok i wr => ∃ k : Nat, k ≤ n ∧ i = .int .i64 (k : Int) ∧ ok = .bool (decide (0 < k)) ∧ Hid (∀ j, j < k → (rnAt l j).1 ≤ p) ∧ Blk wr (w.heap.size + 1) 33 #[.int .i64 (lastRo l k).1, .int .i64 (lastRo l k).2.1, .bool (lastRo l k).2.2.1, .int .i64 (lastRo l k).2.2.2] ∧ Blk wr w.heap.size 33 #[.int .i64 0, .int .i64 0, .bool false, .int .i64 0] ∧ Below w.heap.size w wr) (fun _ i _ => n - (intOf i).toNat)
  case atStart => exact ⟨0, Nat.zero_le _, rfl, rfl, Lib.hid (fun j hj => by omega), blk_put4 HW0.out.2.1 _ _ _ _, blk_away4 HW0.out.1 _ _ _ _ _ (by omega), below_put4 HW0.out.2.2 _ (by omega) _ _ _ _⟩
  case round =>
    obtain ⟨k, hk, rfl, rfl, HO, hxb, hrb, hbel⟩ := hrel
    by_cases hlt : k < n ∧ (rnAt l k).1 ≤ p
    · obtain ⟨hlt, hp⟩ := hlt
      have hkI : (k : Int) < (n : Int) := by omega
      obtain ⟨ad, rfl, _, c0, c1, c2, c3, c4⟩ := HR.out wr hbel k hlt
      have HO2 := Lib.hid (show ∀ j, j < k + 1 → (rnAt l j).1 ≤ p from fun j hj => by
        by_cases e : j = k
        · subst e; exact hp
        · exact HO.out j (by omega))
      have HN := Lib.hid (lastRo_next l k)
      obtain ⟨f0, f1, f2, f3⟩ := Blk.fr4 hxb
      obtain ⟨k0, k1, k2, k3⟩ := Blk.ce4 hxb
      have HXB := Lib.hid hxb
      have HRB := Lib.hid hrb
      have HBE := Lib.hid hbel
      have hdk : (true : Bool) = decide (0 < k + 1) := by simp
      have HDK := Lib.hid hdk
      clear hxb hrb hbel HO hdk
      generalize rnAt l k = x at hp c0 c1 c2 c3 c4 HN
      go_wp2_with fail
      go_roundw
      case rel =>
        refine ⟨k + 1, by omega, by go_num, by rw [← HDK.out], HO2, ?_, blk_away4 HRB.out _ _ _ _ _ (by omega), below_put4 HBE.out _ (by omega) _ _ _ _⟩
        rw [HN.out]
        exact blk_put4 HXB.out _ _ _ _
      case measure => simp [intOf]; omega
    · have hv : bg l p = k := by
        refine bg_is HO.out (by rw [HL.out]; exact hk) fun hh => ?_
        rw [HL.out] at hh
        have := fun h => hlt ⟨hh, h⟩
        omega
      have HVV := Lib.hid (HV.out k hv)
      obtain ⟨k0, k1, k2, k3⟩ := Blk.ce4 hxb
      obtain ⟨f0, f1, f2, f3⟩ := Blk.fr4 hrb
      obtain ⟨m0, m1, m2, m3⟩ := Blk.ce4 hrb
      have HBE := Lib.hid hbel
      obtain ⟨bl, hbl⟩ : ∃ bl, decide (0 < k) = bl := ⟨_, rfl⟩
      rw [hbl] at HVV ⊢
      have hcs : (n : Int) ≤ (k : Int) ∨ (∃ ad, A = some ad ∧ (k : Int) < (n : Int) ∧ ∃ y, wr.cell? (ad.add (k * 5)) = some (.int .i64 y) ∧ ¬ y ≤ p) := by
        by_cases hkn : k < n
        · obtain ⟨ad, e, _, c0, _⟩ := HR.out wr hbel k hkn
          exact .inr ⟨ad, e, by omega, _, c0, fun h => hlt ⟨hkn, h⟩⟩
        · exact .inl (by omega)
      clear hxb hrb hbel hlt hv hbl HO
      generalize lastRo l k = r at HVV k0 k1 k2 k3
      rcases hcs with hcs | ⟨ad, rfl, hcs, y, c0, hy⟩
      · have hcs2 : ¬ (k : Int) < (n : Int) := by omega
        go_wp2_with fail
        refine bodyPost_ret (v := .tuple #[.agg #[.int .i64 r.1, .int .i64 r.2.1, .bool r.2.2.1, .int .i64 r.2.2.2], .bool bl]) (by simp [results, Try.results17, go_sem, m0, m1, m2, m3]) rfl ⟨?_, ?_⟩
        · rw [HVV.out.1, HVV.out.2]; rfl
        · exact below_put4 HBE.out _ (Nat.le_refl _) _ _ _ _
      · go_wp2_with fail
        refine bodyPost_ret (v := .tuple #[.agg #[.int .i64 r.1, .int .i64 r.2.1, .bool r.2.2.1, .int .i64 r.2.2.2], .bool bl]) (by simp [results, Try.results17, go_sem, m0, m1, m2, m3]) rfl ⟨?_, ?_⟩
        · rw [HVV.out.1, HVV.out.2]; rfl
        · exact below_put4 HBE.out _ (Nat.le_refl _) _ _ _ _
end Go.Proofs.Ytckpbdphilifoaa.By
