/-
  WALKS of layer 9: Number.
-/
import Derived.Test.YtnplhpbbdgnmiaaGreatDoorLi
import Derived.Lib.ParseIntBTie
import Derived.Shelf.Unicode.PredsPay
namespace Go.Proofs.YtnplhpbbdgnmiaaGreatDoor.Ln
open Go.RowKit
open Mem Go.Lib

/-- The number whose decimal a text is. -/
def numV (s : ByteArray) : Int × Bool := match parseIntB 64 s.data.toList with
  | .ok v => if decB v = s then (v, true) else (0, false)
  | _ => (0, false)

theorem numV_yes {s : ByteArray} {v : Int} (h : I64 v) (hs : decB v = s) : numV s = (v, true) := by
  have hp : parseIntB 64 s.data.toList = .ok v := by rw [← hs]; exact parse_itoa v h
  unfold numV
  rw [hp]
  simp only
  rw [if_pos hs]
theorem numV_no {s : ByteArray} (h : ∀ v, I64 v → decB v ≠ s) : numV s = (0, false) := by
  unfold numV
  cases hp : parseIntB 64 s.data.toList with
  | ok v =>
    simp only
    have hb := parseIntB_bounds hp
    rw [if_neg (h v ⟨by simpa using hb.1, by have := hb.2; simp at this; omega⟩)]
  | «syntax» => rfl
  | range => rfl

/-- The error values of strconv. -/
def Er (w : World) : Prop := (∃ te pe, w.cell? ⟨3, 0, none⟩ = some (.iface te pe)) ∧ ∃ te pe, w.cell? ⟨4, 0, none⟩ = some (.iface te pe)
theorem Er.below {w w' : World} (h : Er w) (hb : Below w.heap.size w w') : Er w' := by
  obtain ⟨⟨a, b, h1⟩, c, d, h2⟩ := h
  exact ⟨⟨a, b, (hb.cell (World.block_lt_of_cell? w _ h1)).trans h1⟩, c, d, (hb.cell (World.block_lt_of_cell? w _ h2)).trans h2⟩
theorem Tb.below {w w' : World} (h : Tb w) (hb : Below w.heap.size w w') : Tb w' := TabIs_below (g := 5) (by kernel_rfl) h hb

def PAns (s : ByteArray) (w : World) (e : Ending) (w' : World) : Prop := ∃ n err, e = .returned (.tuple #[.int .i64 n, err]) ∧ Below w.heap.size w w' ∧ ((err = .nilIface ∧ I64 n ∧ numV s = (if decB n = s then (n, true) else (0, false))) ∨ (∃ a b, err = .iface a b) ∧ numV s = (0, false))

theorem pint_any (s : ByteArray) (w : World) (hs : s.size ≤ 1000000) (he : Er w) : Calls Tryz.prog 22 #[.string s, .int .i64 10, .int .i64 64] w (PAns s w) := by
  obtain ⟨⟨te, pe, h1⟩, tf, pf, h2⟩ := he
  cases hp : parseIntB 64 s.data.toList with
  | ok v =>
    refine (Tryz.strconv_ParseInt_10_at64_ok s (by omega) v hp w).mono fun e w' hh => ?_
    obtain ⟨he, hw⟩ := hh
    refine ⟨v, .nilIface, he, ?_, .inl ⟨rfl, ?_, ?_⟩⟩
    · rcases hw with rfl | ⟨t, rfl⟩
      · exact Below.refl _ _
      · exact Lib.bytesWorld_below _ _ _
    · have hb := parseIntB_bounds hp
      exact ⟨by simpa using hb.1, by have := hb.2; simp at this; omega⟩
    · unfold numV; rw [hp]
  | «syntax» =>
    refine (Tryz.strconv_ParseInt_10_at64_syntax s (by omega) hp _ w h1 (.inr ⟨te, pe, rfl⟩)).mono fun e w' hh => ?_
    obtain ⟨N, he, _, _, hb⟩ := hh
    exact ⟨0, _, he, hb, .inr ⟨⟨_, _, rfl⟩, by unfold numV; rw [hp]⟩⟩
  | range =>
    refine (Tryz.strconv_ParseInt_10_at64_range s (by omega) hp _ w h2 (.inr ⟨tf, pf, rfl⟩)).mono fun e w' hh => ?_
    obtain ⟨N, he, _, _, hb⟩ := hh
    exact ⟨_, _, he, hb, .inr ⟨⟨_, _, rfl⟩, by unfold numV; rw [hp]⟩⟩

def NAns (s : ByteArray) (w : World) (e : Ending) (w' : World) : Prop := e = .returned (.tuple #[.int .i64 (numV s).1, .bool (numV s).2]) ∧ Below w.heap.size w w'

set_option maxRecDepth 100000 in
theorem number_any (s : ByteArray) (w : World) (hs : s.size ≤ 1000000) (he : Er w) (ht : Tb w) : Calls Tryz.prog 7 #[.string s] w (NAns s w) := by
  have HP := Lib.hid (pint_any s w hs he)
  have HT := Lib.hid ht
  clear hs he ht
  go_enter Tryz.func7, Tryz.ntmps7
  go_wp2_with fail
  refine HP.out.mono ?_
  rintro e w1 ⟨n, err, rfl, hb, ho⟩
  have HB := Lib.hid hb
  clear hb
  rcases ho with ⟨rfl, hn, hv⟩ | ⟨⟨a, b, rfl⟩, hv⟩
  · have HV := Lib.hid hv
    have HN := Lib.hid hn
    clear hv hn
    go_wp2_with fail
    refine (decimal_any n HN.out.1 HN.out.2 _ (HT.out.below HB.out)).mono ?_
    rintro e w2 ⟨rfl, hb2⟩
    have HB2 := Lib.hid (HB.out.trans (hb2.mono HB.out.size))
    clear hb2
    by_cases hd : decB n = s
    · have HF := Lib.hid (show numV s = (n, true) by rw [HV.out, if_pos hd])
      have hq : (ByteArray.toList (decB n) == ByteArray.toList s) = true := by rw [hd]; simp
      clear hd
      go_wp2_with fail
      go_ret2
      exact ⟨by rw [HF.out]; rfl, HB2.out⟩
    · have HF := Lib.hid (show numV s = (0, false) by rw [HV.out, if_neg hd])
      have hq : (ByteArray.toList (decB n) == ByteArray.toList s) = false := by
        rw [beq_eq_false_iff_ne, ByteArray.toList_eq, ByteArray.toList_eq]
        exact fun e => hd (ba_ext e)
      have hq2 : (ByteArray.toList (decB n) != ByteArray.toList s) = true := by unfold bne; rw [hq]; rfl
      clear hd
      go_wp2_with fail
      go_ret2
      exact ⟨by rw [HF.out]; rfl, HB2.out⟩
  · have HV := Lib.hid hv
    clear hv
    go_wp2_with fail
    go_ret2
    exact ⟨by rw [HV.out]; rfl, HB.out⟩
end Go.Proofs.YtnplhpbbdgnmiaaGreatDoor.Ln
