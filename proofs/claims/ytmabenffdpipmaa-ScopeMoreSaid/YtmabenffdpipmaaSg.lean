/-
  WALKS of layer 23: the document's global, Find and Bound.
-/
import Derived.Test.YtmabenffdpipmaaSf
import Derived.Test.YtmabenffdpipmaaSc
namespace Go.Proofs.Ytmabenffdpipmaa.By
open Go.RowKit
open Mem Rf
set_option linter.unusedSimpArgs false
set_option linter.unusedVariables false

theorem eq_text (a b : ByteArray) : (ByteArray.toList a == ByteArray.toList b) = decide (a = b) := by
  rw [ByteArray.toList_eq, ByteArray.toList_eq]
  by_cases h : a = b
  · subst h; simp
  · have : ¬ a.data = b.data := fun e => h (by cases a; cases b; simp only at e; rw [e])
    simp [h, this]

theorem firstOf_pre {a b : List Gs} (h : a <+: b) {nm : ByteArray} {p : Pl} (hf : firstOf a nm = some p) : firstOf b nm = some p := by
  obtain ⟨t, rfl⟩ := h
  unfold firstOf at hf ⊢
  rw [List.find?_append]
  cases hx : a.find? fun x => decide (x.2.1 = nm) with
  | none => rw [hx] at hf; simp at hf
  | some y => rw [hx] at hf; simpa using hf

def upG (L : List (List Sy)) (i j : Nat) : List Gs := (upTo L i j).filter fun x => isG x.2
theorem upG_more {L : List (List Sy)} {i j : Nat} (h : j < (rowS L i).length) : upG L i (j + 1) = upG L i j ++ (if isG (atS L i j) then [((i, j), atS L i j)] else []) := by
  unfold upG
  rw [upTo_more _ _ _ h, List.filter_append]
  by_cases hg : isG (atS L i j) = true
  · simp [hg]
  · simp [hg]
theorem upG_in {L : List (List Sy)} {i j : Nat} (h : i < L.length) : upG L i j <+: globs L := (upTo_in L h).filter _
theorem upG_next (L : List (List Sy)) (i : Nat) : upG L i (rowS L i).length = upG L (i + 1) 0 := by unfold upG; rw [upTo_next]
theorem upG_all (L : List (List Sy)) : upG L L.length 0 = globs L := by unfold upG globs; rw [upTo_all]
theorem upG_zero (L : List (List Sy)) : upG L 0 0 = [] := by simp [upG, upTo]

/-- The files' lists, in the words of the walks. -/
structure Fs (w : World) (B : Nat) (A : Option Addr) (n c : Nat) (L : List (List Sy)) : Prop where
  len : L.length = n
  few : n ≤ 9223372036854775807
  row : ∀ i, i < n → ∃ ad oA on oc fA fn fc dA dn dc, A = some ad ∧ ad.block < B ∧ w.cell? (ad.add (i * 3)) = some (.slice oA on oc) ∧ w.cell? ⟨(ad.add (i * 3)).block, (ad.add (i * 3)).off + 1, none⟩ = some (.slice fA fn fc) ∧ w.cell? ⟨(ad.add (i * 3)).block, (ad.add (i * 3)).off + 2, none⟩ = some (.slice dA dn dc) ∧
    (rowS L i).length = on ∧ on ≤ 9223372036854775807 ∧ ∀ k, k < on → ∃ ad2, oA = some ad2 ∧ ad2.block < B ∧ w.cell? (ad2.add (k * 5)) = some (.string (atS L i k).1) ∧ w.cell? ⟨(ad2.add (k * 5)).block, (ad2.add (k * 5)).off + 1, none⟩ = some (.bool (atS L i k).2.1) ∧ w.cell? ⟨(ad2.add (k * 5)).block, (ad2.add (k * 5)).off + 2, none⟩ = some (.int .i64 (atS L i k).2.2.1) ∧ w.cell? ⟨(ad2.add (k * 5)).block, (ad2.add (k * 5)).off + 3, none⟩ = some (.int .i64 (atS L i k).2.2.2.1) ∧ w.cell? ⟨(ad2.add (k * 5)).block, (ad2.add (k * 5)).off + 4, none⟩ = some (.int .i64 (atS L i k).2.2.2.2)

theorem fs_of {w : World} {B : Nat} {A : Option Addr} {n c : Nat} {os : List Ob} (h : ObL w B A n c os) : Fs w B A n c (lists os) where
  len := by rw [lists_length, h.1.1]
  few := h.1.few
  row := fun i hi => by
    obtain ⟨ad, e, hb, c0, c1, c2⟩ := h.at_ hi
    have hr : rowS (lists os) i = (obAt os i).l := rowS_lists (by rw [h.1.1]; exact hi)
    have hs := h.2 i hi
    refine ⟨ad, _, _, _, _, _, _, _, _, _, e, hb, c0, c1, c2, by rw [hr, hs.1], hs.few, fun k hk => ?_⟩
    unfold atS
    rw [hr]
    exact syl_at hs hk
theorem Fs.on {w w' : World} {B : Nat} {A : Option Addr} {n c : Nat} {L : List (List Sy)} (h : Fs w B A n c L) (hk : ∀ p : Addr, p.block < B → w'.cell? p = w.cell? p) : Fs w' B A n c L where
  len := h.len
  few := h.few
  row := fun i hi => by
    obtain ⟨ad, oA, on, oc, fA, fn, fc, dA, dn, dc, e, hb, c0, c1, c2, h1, h2, h3⟩ := h.row i hi
    refine ⟨ad, oA, on, oc, fA, fn, fc, dA, dn, dc, e, hb, (hk _ (by rw [add_block]; exact hb)).trans c0, (hk _ (by show (ad.add (i * 3)).block < B; rw [add_block]; exact hb)).trans c1, (hk _ (by show (ad.add (i * 3)).block < B; rw [add_block]; exact hb)).trans c2, h1, h2, fun k hkk => ?_⟩
    obtain ⟨ad2, e2, hb2, s0, s1, s2, s3, s4⟩ := h3 k hkk
    have f : ∀ j, (⟨(ad2.add (k * 5)).block, (ad2.add (k * 5)).off + j, none⟩ : Addr).block < B := fun j => by show (ad2.add (k * 5)).block < B; rw [add_block]; exact hb2
    exact ⟨ad2, e2, hb2, (hk _ (by rw [add_block]; exact hb2)).trans s0, (hk _ (f 1)).trans s1, (hk _ (f 2)).trans s2, (hk _ (f 3)).trans s3, (hk _ (f 4)).trans s4⟩
theorem Fs.below {w w' : World} {B : Nat} {A : Option Addr} {n c : Nat} {L : List (List Sy)} (h : Fs w B A n c L) (hB : B ≤ w.heap.size) (hb : Below w.heap.size w w') : Fs w' B A n c L := h.on fun p hp => hb.cell (Nat.lt_of_lt_of_le hp hB)

theorem rglobal_any (s : Sy) (w : World) : Calls Try.prog 18 #[syV s] w fun e w' => e = .returned (.bool (isG s)) ∧ Below w.heap.size w w' := by
  obtain ⟨y0, y1, y2, y3, y4⟩ := s
  unfold syV isG
  dsimp only
  obtain ⟨b, hb⟩ : ∃ b, decide (y4 ≠ -1) = b := ⟨_, rfl⟩
  rw [hb]
  have hb' : (y4 != -1) = b := by rw [← hb]; by_cases h : y4 = -1 <;> simp [h]
  clear hb
  cases y1 with
  | true =>
    go_enter Try.func18, Try.ntmps18
    go_wp2_with fail
    go_ret
    exact ⟨rfl, (Below.refl _ _).alloc (Nat.le_refl _) _⟩
  | false =>
    go_enter Try.func18, Try.ntmps18
    go_wp2_with fail
    go_ret
    exact ⟨rfl, (Below.refl _ _).alloc (Nat.le_refl _) _⟩

def findE (o : Option Pl) : Value := .tuple #[.int .i64 ((o.getD (0, 0)).1 : Int), .int .i64 ((o.getD (0, 0)).2 : Int), .bool o.isSome]

set_option maxRecDepth 100000 in
set_option maxHeartbeats 2000000 in
theorem rfind_any (A : Option Addr) (n c B : Nat) (L : List (List Sy)) (nm : ByteArray) (w : World) (h : Fs w B A n c L) (hB : B ≤ w.heap.size) :
    Calls Try.prog 9 #[.slice A n c, .string nm] w fun e w' => e = .returned (findE (findV L nm)) ∧ Below w.heap.size w w' := by
  have HF := Lib.hid h
  have HB := Lib.hid hB
  have hn := h.few
  have HR := Lib.hid (fun W (hb : Below w.heap.size w W) => h.below hB hb)
  have HA := Lib.hid (show upG L n 0 = globs L by rw [← h.len]; exact upG_all L)
  have HIN := Lib.hid (show ∀ i j, i < n → upG L i j <+: globs L from fun i j hi => upG_in (by rw [h.len]; exact hi))
  clear h hB
  go_enter Try.func9, Try.ntmps9
  go_wp2_with fail
  go_loopw [7] (fun i wr => ∃ k : Nat, k ≤ n ∧ i = .int .i64 (k : Int) ∧ firstOf (upG L k 0) nm = none ∧ Below w.heap.size w wr) (fun i _ => n - (intOf i).toNat)
  case atStart => exact ⟨0, Nat.zero_le _, rfl, by rw [upG_zero]; rfl, Below.refl _ _⟩
  case round =>
    obtain ⟨k, hk, rfl, hno, hbel⟩ := hrel
    by_cases hlt : k < n
    · have hkI : (k : Int) < (n : Int) := by omega
      have hk0 : (0 : Int) ≤ (k : Int) := by omega
      obtain ⟨wz, hwz⟩ : ∃ wz, wz = wr := ⟨_, rfl⟩
      subst hwz
      have HNO := Lib.hid hno
      have HBE := Lib.hid hbel
      have HLEN := Lib.hid (HR.out _ hbel)
      obtain ⟨on, hon⟩ : ∃ on, (rowS L k).length = on := ⟨_, rfl⟩
      have HON := Lib.hid hon
      have honm : on ≤ 9223372036854775807 := by
        obtain ⟨_, _, _, _, _, _, _, _, _, _, _, _, _, _, _, h1, h2, _⟩ := HLEN.out.row k hlt
        omega
      clear hno hbel hon
      go_wp2_with fail
      go_loopw [8] (fun i wr => ∃ j : Nat, j ≤ on ∧ i = .int .i64 (j : Int) ∧ firstOf (upG L k j) nm = none ∧ Below w.heap.size w wr) (fun i _ => on - (intOf i).toNat)
      case atStart => exact ⟨0, Nat.zero_le _, rfl, HNO.out, HBE.out⟩
      case round =>
        obtain ⟨j, hj, rfl, hno, hbel⟩ := hrel
        obtain ⟨ad, oA, on', oc, fA, fn, fc, dA, dn, dc, rfl, hblk, c0, c1, c2, h1, h2, h3⟩ := (HR.out wr hbel).row k hlt
        obtain rfl : on' = on := by rw [← h1, HON.out]
        clear h1 h2 c1 c2
        by_cases hjl : j < on'
        · have hjI : (j : Int) < (on' : Int) := by omega
          have hj0 : (0 : Int) ≤ (j : Int) := by omega
          obtain ⟨ad2, rfl, hb2, s0, s1, s2, s3, s4⟩ := h3 j hjl
          have HM := Lib.hid (upG_more (L := L) (i := k) (j := j) (by rw [HON.out]; exact hjl))
          have HI := Lib.hid (HIN.out k (j + 1) hlt)
          have HBE2 := Lib.hid hbel
          have HNO2 := Lib.hid hno
          clear h3 hbel hno
          generalize atS L k j = s at *
          obtain ⟨wa, hwa⟩ : ∃ wa, wr.alloc (.cells (encSy s).toArray 42) = wa := ⟨_, rfl⟩
          have HWA := Lib.hid (show Below wr.heap.size wr wa from hwa ▸ (Below.refl _ _).alloc (Nat.le_refl _) _)
          have HG := Lib.hid (rglobal_any s wa)
          have hq := eq_text s.1 nm
          obtain ⟨y0, y1, y2, y3, y4⟩ := s
          unfold syV at HG
          unfold encSy at hwa
          dsimp only at s0 s1 s2 s3 s4 hq HG hwa
          have hbk : Blk wa wr.heap.size 42 #[.string y0, .bool y1, .int .i64 y2, .int .i64 y3, .int .i64 y4] := by rw [← hwa]; exact Blk.new _ _ _
          have cw : wa.cell? ⟨wr.heap.size, 0, none⟩ = some (.string y0) := hbk.cell 0
          have cw1 : wa.cell? ⟨wr.heap.size, 1, none⟩ = some (.bool y1) := hbk.cell 1
          have cw2 : wa.cell? ⟨wr.heap.size, 2, none⟩ = some (.int .i64 y2) := hbk.cell 2
          have cw3 : wa.cell? ⟨wr.heap.size, 3, none⟩ = some (.int .i64 y3) := hbk.cell 3
          have cw4 : wa.cell? ⟨wr.heap.size, 4, none⟩ = some (.int .i64 y4) := hbk.cell 4
          clear hbk
          have hsz : wr.heap.size < wa.heap.size := by rw [← hwa]; simp
          by_cases hg : isG (y0, y1, y2, y3, y4) = true
          · rw [if_pos hg] at HM
            rw [hg] at HG
            by_cases he : y0 = nm
            · have hq' : (ByteArray.toList y0 == ByteArray.toList nm) = true := by rw [hq]; simpa using he
              have HV := Lib.hid (show findV L nm = some (k, j) from firstOf_pre HI.out (by rw [HM.out, firstOf_snoc, HNO2.out]; simp [he]))
              clear hq hg he
              go_wp2_with (go_at_call 18; refine HG.out.mono ?_; rintro e w2 ⟨rfl, hb2⟩; have d0 := (hb2.cell hsz).trans cw; have HB2 := Lib.hid hb2; clear hb2)
              refine bodyPost_ret (v := findE (some (k, j))) (by simp [results, Try.results9, go_sem, findE]) rfl ⟨by rw [HV.out], ?_⟩
              exact (HBE2.out.trans (HWA.out.mono HBE2.out.size)).trans (HB2.out.mono (Nat.le_trans HBE2.out.size HWA.out.size))
            · have hq' : (ByteArray.toList y0 == ByteArray.toList nm) = false := by rw [hq]; simpa using he
              have HV := Lib.hid (show firstOf (upG L k (j + 1)) nm = none by rw [HM.out, firstOf_snoc, HNO2.out]; simp [he])
              clear hq hg he
              go_wp2_with (go_at_call 18; refine HG.out.mono ?_; rintro e w2 ⟨rfl, hb2⟩; have d0 := (hb2.cell hsz).trans cw; have HB2 := Lib.hid hb2; clear hb2)
              go_roundw
              case rel => exact ⟨j + 1, by omega, by go_num, HV.out, (HBE2.out.trans (HWA.out.mono HBE2.out.size)).trans (HB2.out.mono (Nat.le_trans HBE2.out.size HWA.out.size))⟩
              case measure => simp [intOf]; omega
          · have hg' : isG (y0, y1, y2, y3, y4) = false := by simpa using hg
            rw [hg'] at HM HG
            have HV := Lib.hid (show firstOf (upG L k (j + 1)) nm = none by rw [HM.out]; simp [HNO2.out])
            clear hq hg hg'
            go_wp2_with (go_at_call 18; refine HG.out.mono ?_; rintro e w2 ⟨rfl, hb2⟩; have HB2 := Lib.hid hb2; clear hb2)
            go_roundw
            case rel => exact ⟨j + 1, by omega, by go_num, HV.out, (HBE2.out.trans (HWA.out.mono HBE2.out.size)).trans (HB2.out.mono (Nat.le_trans HBE2.out.size HWA.out.size))⟩
            case measure => simp [intOf]; omega
        · obtain rfl : j = on' := by omega
          have HV := Lib.hid (show firstOf (upG L (k + 1) 0) nm = none by rw [← upG_next, HON.out]; exact hno)
          clear hno
          go_wp2_with fail
          go_roundw
          case rel => exact ⟨k + 1, by omega, by go_num, HV.out, hbel⟩
          case measure => simp [intOf]; omega
    · obtain rfl : k = n := by omega
      rw [HA.out] at hno
      have HV := Lib.hid (show findV L nm = none from hno)
      clear hno
      go_wp2_with fail
      refine bodyPost_ret (v := findE none) (by simp [results, Try.results9, go_sem, findE]) rfl ⟨by rw [HV.out], hbel⟩
end Go.Proofs.Ytmabenffdpipmaa.By
