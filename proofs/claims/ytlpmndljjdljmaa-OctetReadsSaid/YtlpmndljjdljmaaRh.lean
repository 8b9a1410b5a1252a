/-
  WALK: the document's own reader of texts (function 29): what it answers is what octet's reader answers.
-/
import Derived.Test.YtlpmndljjdljmaaRg
namespace Go.Proofs.Ytlpmndljjdljmaa.By
open Go.ChangeShapes Go.WideShapes Go.ChangeAt Go.RowKit
open Mem

/-- The document's reader behind a read of a text. -/
def RTxt (w : World) (A : Option Addr) (n c p : Nat) (bad : Bool) (t : ByteArray) (e : Ending) (w' : World) : Prop :=
  e = .returned (.tuple #[.agg #[.slice A n c, .int .i64 p, .bool bad], .string t]) ∧ Below w.heap.size w w'

set_option maxHeartbeats 1000000 in
theorem rnext_no (w : World) (A : Option Addr) (n c p p1 : Nat) (bad bad1 : Bool) (most q : Int) (hp : p1 ≤ n) (hn : n ≤ 1099511627776) (hq : 0 ≤ q ∧ q ≤ 255)
    (h : ∀ W : World, (∀ b : Addr, b.block < w.heap.size → W.cell? b = w.cell? b) → Calls Try.prog 9 #[.agg #[.slice A n c, .int .i64 p, .bool bad], .int .i64 1, .bool false] W (RNum W A n c p1 bad1 q))
    (hno : bad1 = true ∨ (bad1 = false ∧ decide (most < q) = true) ∨ (bad1 = false ∧ decide (most < q) = false ∧ decide ((n : Int) - p1 < q) = true)) :
    Calls Try.prog 12 #[.agg #[.slice A n c, .int .i64 p, .bool bad], .int .i64 most] w (RTxt w A n c p true ⟨#[]⟩) := by
  have H := Lib.hid (h ((w.alloc (.cells #[.slice A n c, .int .i64 p, .bool bad] 28)).alloc (.cells #[.slice none 0 0, .int .i64 0, .bool false] 28)) (fun b hb => by
    rw [World.cell?_alloc_lt _ _ _ (by simp; omega), World.cell?_alloc_lt _ _ _ hb]))
  obtain ⟨hq0, hq1⟩ := hq
  have B0 := Lib.hid ((Blk.new w 28 #[.slice A n c, .int .i64 p, .bool bad]).alloc (.cells #[.slice none 0 0, .int .i64 0, .bool false] 28))
  have B1 := Lib.hid (Blk.new (w.alloc (.cells #[.slice A n c, .int .i64 p, .bool bad] 28)) 28 #[.slice none 0 0, .int .i64 0, .bool false])
  rw [World.size_alloc] at B1
  have BW := Lib.hid (((Below.refl w.heap.size w).alloc (Nat.le_refl _) (.cells #[.slice A n c, .int .i64 p, .bool bad] 28)).alloc (by simp) (.cells #[.slice none 0 0, .int .i64 0, .bool false] 28))
  clear h
  rcases hno with rfl | ⟨rfl, hd⟩ | ⟨rfl, hd, hd2⟩
  all_goals
    go_enter Try.func12, Try.ntmps12
    go_wp2_with fail
    refine H.out.mono ?_
    rintro e w1 ⟨rfl, hb⟩
    have hs : w.heap.size + 1 + 1 ≤ w1.heap.size := by simpa using hb.size
    have D0 := B0.out.below hb (by simp; omega)
    have D1 := B1.out.below hb (by simp)
    have HB := Lib.hid (BW.out.trans (hb.mono (by simp; omega)))
    have k0 : w1.cell? ⟨w.heap.size, 0, none⟩ = some (.slice A n c) := by rw [D0.cell]; rfl
    have k1 : w1.cell? ⟨w.heap.size, 1, none⟩ = some (.int .i64 p) := by rw [D0.cell]; rfl
    have k2 : w1.cell? ⟨w.heap.size, 2, none⟩ = some (.bool bad) := by rw [D0.cell]; rfl
    have f2 : w1.frozen? ⟨w.heap.size, 2, none⟩ = false := D0.frozen 2
    have m0 : w1.cell? ⟨w.heap.size + 1, 0, none⟩ = some (.slice none 0 0) := by rw [D1.cell]; rfl
    have m1 : w1.cell? ⟨w.heap.size + 1, 1, none⟩ = some (.int .i64 0) := by rw [D1.cell]; rfl
    have m2 : w1.cell? ⟨w.heap.size + 1, 2, none⟩ = some (.bool false) := by rw [D1.cell]; rfl
    have n0 : w1.frozen? ⟨w.heap.size + 1, 0, none⟩ = false := D1.frozen 0
    have n1 : w1.frozen? ⟨w.heap.size + 1, 1, none⟩ = false := D1.frozen 1
    have n2 : w1.frozen? ⟨w.heap.size + 1, 2, none⟩ = false := D1.frozen 2
    have l0 : w.heap.size < w1.heap.size := by omega
    have l1 : w.heap.size + 1 < w1.heap.size := by omega
    clear hb D0 D1 hs
    go_wp2
    refine bodyPost_ret (v := .tuple #[.agg #[.slice A n c, .int .i64 p, .bool true], .string ⟨#[]⟩]) ?_ rfl ⟨rfl, ?_⟩
    · simp [results, Try.results12, go_sem, m0, m1, m2, l1]
    · have hB := HB.out
      go_grown

set_option maxHeartbeats 1000000 in
theorem rnext_ok (w : World) (ad : Addr) (n c p m : Nat) (most : Int) (us : List UInt8) (hn : n ≤ 1099511627776) (hm : (m : Int) ≤ 255) (hmost : (m : Int) ≤ most) (hle : (p : Int) + 1 + m ≤ n) (hc : n ≤ c) (hcm : c ≤ maxLen) (hus : us.length = m)
    (hrow : Row w w.heap.size (ad.add (p + 1)) (u8s us))
    (h : ∀ W : World, (∀ b : Addr, b.block < w.heap.size → W.cell? b = w.cell? b) → Calls Try.prog 9 #[.agg #[.slice (some ad) n c, .int .i64 p, .bool false], .int .i64 1, .bool false] W (RNum W (some ad) n c (p + 1) false m)) :
    Calls Try.prog 12 #[.agg #[.slice (some ad) n c, .int .i64 p, .bool false], .int .i64 most] w (RTxt w (some ad) n c (p + (1 + m)) false ⟨us.toArray⟩) := by
  have H := Lib.hid (h ((w.alloc (.cells #[.slice (some ad) n c, .int .i64 p, .bool false] 28)).alloc (.cells #[.slice none 0 0, .int .i64 0, .bool false] 28)) (fun b hb => by
    rw [World.cell?_alloc_lt _ _ _ (by simp; omega), World.cell?_alloc_lt _ _ _ hb]))
  have B1 := Lib.hid (Blk.new (w.alloc (.cells #[.slice (some ad) n c, .int .i64 p, .bool false] 28)) 28 #[.slice none 0 0, .int .i64 0, .bool false])
  rw [World.size_alloc] at B1
  have BW := Lib.hid (((Below.refl w.heap.size w).alloc (Nat.le_refl _) (.cells #[.slice (some ad) n c, .int .i64 p, .bool false] 28)).alloc (by simp) (.cells #[.slice none 0 0, .int .i64 0, .bool false] 28))
  have HROW := Lib.hid hrow
  have HUS := Lib.hid hus
  have HPM := Lib.hid (show ((p + (1 + m) : Nat) : Int) = (p : Int) + 1 + m by omega)
  have hd : decide (most < (m : Int)) = false := by simp; omega
  have hd2 : decide ((n : Int) - (p + 1) < m) = false := by simp; omega
  unfold maxLen at hcm
  clear h hrow hus
  by_cases hcp : c = p + 1
  · obtain rfl : m = 0 := by omega
    obtain rfl : us = [] := List.eq_nil_of_length_eq_zero (by have := HUS.out; omega)
    subst hcp
    clear HROW HUS
    go_enter Try.func12, Try.ntmps12
    go_wp2_with fail
    refine H.out.mono ?_
    rintro e w1 ⟨rfl, hb⟩
    have hs : w.heap.size + 1 + 1 ≤ w1.heap.size := by simpa using hb.size
    have D1 := B1.out.below hb (by simp)
    have hB := BW.out.trans (hb.mono (by simp; omega))
    have HB := Lib.hid hB
    have m0 : w1.cell? ⟨w.heap.size + 1, 0, none⟩ = some (.slice none 0 0) := by rw [D1.cell]; rfl
    have m1 : w1.cell? ⟨w.heap.size + 1, 1, none⟩ = some (.int .i64 0) := by rw [D1.cell]; rfl
    have m2 : w1.cell? ⟨w.heap.size + 1, 2, none⟩ = some (.bool false) := by rw [D1.cell]; rfl
    have n0 : w1.frozen? ⟨w.heap.size + 1, 0, none⟩ = false := D1.frozen 0
    have n1 : w1.frozen? ⟨w.heap.size + 1, 1, none⟩ = false := D1.frozen 1
    have n2 : w1.frozen? ⟨w.heap.size + 1, 2, none⟩ = false := D1.frozen 2
    have l1 : w.heap.size + 1 < w1.heap.size := by omega
    have hcv : ∀ o : Obj, (convert 22 9 (.slice (some ad) 0 0)).run Try.prog (w1.alloc o) = .ok (.string ⟨([] : List UInt8).toArray⟩) (w1.alloc o) := fun o =>
      text_of (SlV.at_ (B := 0) ad 0 (u8s []) (Nat.le_refl _) (by unfold maxLen; omega) (fun j u hu => by simp [u8s] at hu))
    clear hb D1 hs hB
    go_wp2
    refine bodyPost_ret (v := .tuple #[.agg #[.slice (some ad) n (p + 1), .int .i64 (p + 1), .bool false], .string ⟨([] : List UInt8).toArray⟩]) ?_ rfl ⟨by rw [HPM.out]; simp, ?_⟩
    · simp [results, Try.results12, go_sem, m0, m1, m2, l1]
    · have hB := HB.out
      go_grown
  · go_enter Try.func12, Try.ntmps12
    go_wp2_with fail
    refine H.out.mono ?_
    rintro e w1 ⟨rfl, hb⟩
    have hs : w.heap.size + 1 + 1 ≤ w1.heap.size := by simpa using hb.size
    have D1 := B1.out.below hb (by simp)
    have hB := BW.out.trans (hb.mono (by simp; omega))
    have HB := Lib.hid hB
    have m0 : w1.cell? ⟨w.heap.size + 1, 0, none⟩ = some (.slice none 0 0) := by rw [D1.cell]; rfl
    have m1 : w1.cell? ⟨w.heap.size + 1, 1, none⟩ = some (.int .i64 0) := by rw [D1.cell]; rfl
    have m2 : w1.cell? ⟨w.heap.size + 1, 2, none⟩ = some (.bool false) := by rw [D1.cell]; rfl
    have n0 : w1.frozen? ⟨w.heap.size + 1, 0, none⟩ = false := D1.frozen 0
    have n1 : w1.frozen? ⟨w.heap.size + 1, 1, none⟩ = false := D1.frozen 1
    have n2 : w1.frozen? ⟨w.heap.size + 1, 2, none⟩ = false := D1.frozen 2
    have l1 : w.heap.size + 1 < w1.heap.size := by omega
    have hcv : ∀ o : Obj, (convert 22 9 (.slice (some ⟨ad.block, ad.off + (p + 1), none⟩) m (c - (p + 1)))).run Try.prog (w1.alloc o) = .ok (.string ⟨us.toArray⟩) (w1.alloc o) := fun o => by
      have hr2 := (HROW.out.below hB).keep (w' := w1.alloc o) (fun b hb => World.cell?_alloc_lt w1 o b (by omega))
      have hl2 : (u8s us).length = m := by rw [u8s_length, HUS.out]
      have := SlV.at_ (ad.add (p + 1)) (c - (p + 1)) (u8s us) (by rw [hl2]; omega) (by unfold maxLen; omega) hr2
      rw [hl2, show ad.add (p + 1) = ⟨ad.block, ad.off + (p + 1), none⟩ from by unfold Addr.add; rw [if_neg (by omega)]] at this
      exact text_of this
    clear hb D1 hs hB
    go_wp2
    refine bodyPost_ret (v := .tuple #[.agg #[.slice (some ad) n c, .int .i64 (p + 1 + m), .bool false], .string ⟨us.toArray⟩]) ?_ rfl ⟨by rw [HPM.out], ?_⟩
    · simp [results, Try.results12, go_sem, m0, m1, m2, l1]
    · have hB := HB.out
      go_grown

/-- The document's own reader of texts, whatever it is given: what octet's reader answers. -/
theorem rnext_any (w : World) (A : Option Addr) (c : Nat) (l : List UInt8) (p : Nat) (good : Bool) (most : Int) (hp : p ≤ l.length) (hl : l.length ≤ 1099511627776) (hv : SlV w w.heap.size (.slice A l.length c) (u8s l)) :
    Calls Try.prog 12 #[.agg #[.slice A l.length c, .int .i64 p, .bool (!good)], .int .i64 most] w (RTxt w A l.length c (textP l p good most) (!fitsT l p good most) ⟨(textV l p good most).toArray⟩) := by
  have hno : fitsT l p good most = false → textP l p good most = p ∧ textV l p good most = [] := fun hf => by
    unfold textP textV; rw [hf]; exact ⟨rfl, rfl⟩
  by_cases hn1 : fitsB l p good 1 = true
  · have hn2 := hn1
    simp only [fitsB, Bool.and_eq_true, decide_eq_true_eq] at hn2
    obtain ⟨rfl, _, _, hpl⟩ := hn2
    have hpl2 : p < l.length := by omega
    have hx := l[p].toNat_lt
    have hrd : readV false l p true 1 = l[p].toNat := by
      unfold readV
      rw [hn1, if_pos rfl]
      have e : (l.drop p).take (1 : Int).toNat = [l[p]] := by
        rw [List.drop_eq_getElem_cons hpl2]; rfl
      rw [e]; simp [numV, acc]
    have hrp : readP l p true 1 = p + 1 := by unfold readP; rw [hn1]; rfl
    have hcall : ∀ W : World, (∀ b : Addr, b.block < w.heap.size → W.cell? b = w.cell? b) → Calls Try.prog 9 #[.agg #[.slice A l.length c, .int .i64 p, .bool false], .int .i64 1, .bool false] W (RNum W A l.length c (p + 1) false (l[p].toNat : Int)) := fun W hW => by
      have h := rnum_any W w.heap.size A c l p true false 1 hp hl (hv.keep hW)
      rw [hrd, hrp, hn1] at h
      exact h
    by_cases hf : fitsT l p true most = true
    · have hf2 := hf
      simp only [fitsT, Bool.true_and, decide_eq_true_eq] at hf2
      obtain ⟨_, hm, hle⟩ := hf2
      have hd : l.getD p 0 = l[p] := by simp [List.getD, hpl2]
      unfold textP textV
      rw [hf, if_pos rfl, if_pos rfl, hd]
      rcases hv.inv with ⟨_, h0, _, _⟩ | ⟨ad, rfl, _, hc, hcm, hrow⟩
      · omega
      · have hr := (hrow.drop (p + 1)).take l[p].toNat
        have e : ((u8s l).drop (p + 1)).take l[p].toNat = u8s ((l.drop (p + 1)).take l[p].toNat) := by simp [u8s, List.map_drop, List.map_take]
        rw [e] at hr
        exact rnext_ok w ad l.length c p l[p].toNat most _ hl (by omega) hm (by omega) hc hcm (by rw [List.length_take, List.length_drop]; omega) hr hcall
    · have hf' : fitsT l p true most = false := by simpa using hf
      rw [(hno hf').1, (hno hf').2, hf']
      refine rnext_no w A l.length c p (p + 1) false false most l[p].toNat (by omega) hl (by omega) hcall (.inr ?_)
      simp only [fitsT, Bool.true_and, decide_eq_false_iff_not] at hf'
      simp only [decide_eq_true_eq, decide_eq_false_iff_not]
      by_cases hm : (l[p].toNat : Int) ≤ most
      · exact .inr ⟨trivial, by omega, by
          by_cases hle : p + 1 + l[p].toNat ≤ l.length
          · exact absurd ⟨hpl2, hm, hle⟩ hf'
          · omega⟩
      · exact .inl ⟨trivial, by omega⟩
  · have hn' : fitsB l p good 1 = false := by simpa using hn1
    have hf' : fitsT l p good most = false := by
      cases good with
      | false => rfl
      | true =>
        simp only [fitsB, Bool.true_and, decide_eq_false_iff_not] at hn'
        simp only [fitsT, Bool.true_and, decide_eq_false_iff_not]
        rintro ⟨h, _⟩; omega
    rw [(hno hf').1, (hno hf').2, hf']
    have hrp : readP l p good 1 = p := by unfold readP; rw [hn']; rfl
    have hrv : readV false l p good 1 = 0 := by unfold readV; rw [hn']; rfl
    refine rnext_no w A l.length c p p (!good) true most 0 hp hl (by omega) (fun W hW => ?_) (.inl rfl)
    have h := rnum_any W w.heap.size A c l p good false 1 hp hl (hv.keep hW)
    rw [hrv, hrp, hn'] at h
    exact h
end Go.Proofs.Ytlpmndljjdljmaa.By
