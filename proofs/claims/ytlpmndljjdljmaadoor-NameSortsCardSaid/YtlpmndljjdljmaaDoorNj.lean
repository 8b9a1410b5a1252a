/-
  WALKS: name.Join and the document's own Join: the name of a file's, or nothing.
-/
import Derived.Test.YtlpmndljjdljmaaDoorNd
import Derived.Test.YtlpmndljjdljmaaDoorShelf
import Derived.Lib.SmallJoins
import Derived.Lib.AppendIntMem
namespace Go.Proofs.YtlpmndljjdljmaaDoor.By
open Go.RowKit
open Nam

/-- The library's table of powers is as its text lays it. -/
def Tab (w : World) : Prop := Lib.TabIs Tryd.prog w "internal/strconv.uint64pow10" .u64 Lib.pow10Tab

theorem glob : Tryd.prog.globalNamed "internal/strconv.uint64pow10" = some 0 := by kernel_rfl

theorem Tab.below {w w' : World} (h : Tab w) (hb : Below w.heap.size w w') : Tab w' := Go.Joins.tab_stays glob h hb (Nat.le_refl _)

theorem itoa_any (n : Int) (h0 : -9223372036854775808 ≤ n) (h1 : n ≤ 9223372036854775807) (w : World) (ht : Tab w) :
    Calls Tryd.prog 19 #[.int .i64 n] w fun e w' => e = .returned (.string ⟨(Lib.itoa n).toArray⟩) ∧ Below w.heap.size w w' :=
  (Tryd.strconv_Itoa n h0 h1 w ht).mono (by rintro e w' ⟨he, k, os, hw⟩; exact ⟨he, by rw [hw]; exact Lib.below_grow _ w (Nat.le_refl _) k os⟩)

theorem itoa_short (n : Int) (h0 : -9223372036854775808 ≤ n) (h1 : n ≤ 9223372036854775807) : (Lib.itoa n).length ≤ 20 := by
  unfold Lib.itoa
  split
  · have := dec_short n.natAbs (by omega); simp; omega
  · have := dec_short n.toNat (by omega); omega

/-- What Join puts together. -/
def glued (file : Int) (l : List UInt8) : List UInt8 := l ++ [46, 102] ++ Lib.itoa file

/-- What Join answers. -/
def joinV (file : Int) (l : List UInt8) : List UInt8 := if 0 ≤ file ∧ checkV (glued file l) = 0 then glued file l else []

theorem glue_bytes (s t : ByteArray) : (s ++ ⟨#[46, 102]⟩ ++ t : ByteArray).data.toList = s.data.toList ++ [46, 102] ++ t.data.toList := by
  simp [ByteArray.data_append]

theorem same_string {s : ByteArray} {l : List UInt8} (h : s.data.toList = l) : s = ⟨l.toArray⟩ := by
  subst h; rfl

/-- The one theorem behind both: what is glued, and its check. -/
theorem join_any (file : Int) (s : ByteArray) (h0 : -9223372036854775808 ≤ file) (h1 : file ≤ 9223372036854775807) (hs : s.size ≤ 600) (w : World) (ht : Tab w) :
    Calls Tryd.prog 10 #[.int .i64 file, .string s] w fun e w' => e = .returned (.string ⟨(joinV file s.data.toList).toArray⟩) ∧ Below w.heap.size w w' := by
  have HI := Lib.hid (itoa_any file h0 h1 w ht)
  have hil := itoa_short file h0 h1
  have hid : (⟨(Lib.itoa file).toArray⟩ : ByteArray).size ≤ 20 := by simpa [ByteArray.size] using hil
  have HG := Lib.hid (show (s ++ ⟨#[46, 102]⟩ ++ ⟨(Lib.itoa file).toArray⟩ : ByteArray).data.toList = glued file s.data.toList by rw [glue_bytes]; rfl)
  obtain ⟨t, ht2⟩ : ∃ t : ByteArray, (⟨(Lib.itoa file).toArray⟩ : ByteArray) = t := ⟨_, rfl⟩
  rw [ht2] at HI hid HG
  have HGS := Lib.hid (show (s ++ ⟨#[46, 102]⟩ ++ t : ByteArray).size ≤ 1000 by
    have : (s ++ ⟨#[46, 102]⟩ ++ t : ByteArray).size = s.size + 2 + t.size := by simp [ByteArray.size_append]; rfl
    omega)
  obtain ⟨J, hJ⟩ : ∃ J : ByteArray, (⟨(joinV file s.data.toList).toArray⟩ : ByteArray) = J := ⟨_, rfl⟩
  have HJ := Lib.hid (show J = if 0 ≤ file ∧ checkV (glued file s.data.toList) = 0 then (s ++ ⟨#[46, 102]⟩ ++ t : ByteArray) else ⟨#[]⟩ by
    rw [← hJ]; unfold joinV
    split
    · exact (same_string HG.out).symm
    · rfl)
  rw [hJ]
  clear hil ht ht2 hJ
  by_cases hneg : file < 0
  · have hd : decide (file < 0) = true := by simpa using hneg
    have HE := Lib.hid (show J = ⟨#[]⟩ by rw [HJ.out, if_neg (by omega)])
    clear h0 h1 hneg
    go_enter Tryd.func10, Tryd.ntmps10
    go_wp2_with fail
    refine HI.out.mono ?_
    rintro e w1 ⟨rfl, hb⟩
    go_wp2_with fail
    go_ret
    exact ⟨by rw [HE.out]; rfl, hb⟩
  · have hd : decide (file < 0) = false := by simpa using hneg
    by_cases hz : checkV (glued file s.data.toList) = 0
    · have HE := Lib.hid (show J = (s ++ ⟨#[46, 102]⟩ ++ t : ByteArray) by rw [HJ.out, if_pos ⟨by omega, hz⟩])
      have HZ := Lib.hid hz
      clear h0 h1 hneg hz
      go_enter Tryd.func10, Tryd.ntmps10
      go_wp2_with fail
      refine HI.out.mono ?_
      rintro e w1 ⟨rfl, hb⟩
      have hc := check_any (s ++ ⟨#[46, 102]⟩ ++ t) w1 HGS.out
      rw [HG.out, HZ.out] at hc
      have HC := Lib.hid hc
      have HB := Lib.hid hb
      clear hc hb
      go_wp2_with fail
      refine HC.out.mono ?_
      rintro e w2 ⟨rfl, hb2⟩
      go_wp2_with fail
      go_ret
      exact ⟨by rw [HE.out]; rfl, HB.out.trans (hb2.mono HB.out.size)⟩
    · have HE := Lib.hid (show J = ⟨#[]⟩ by rw [HJ.out, if_neg (by omega)])
      obtain ⟨x, hx⟩ : ∃ x, checkV (glued file s.data.toList) = x := ⟨_, rfl⟩
      have HX := Lib.hid hx
      have hz1 : (x == 0) = false := by rw [← hx]; simpa using hz
      clear h0 h1 hneg hz hx
      go_enter Tryd.func10, Tryd.ntmps10
      go_wp2_with fail
      refine HI.out.mono ?_
      rintro e w1 ⟨rfl, hb⟩
      have hc := check_any (s ++ ⟨#[46, 102]⟩ ++ t) w1 HGS.out
      rw [HG.out, HX.out] at hc
      have HC := Lib.hid hc
      have HB := Lib.hid hb
      clear hc hb
      go_wp2_with fail
      refine HC.out.mono ?_
      rintro e w2 ⟨rfl, hb2⟩
      go_wp2_with fail
      go_ret
      exact ⟨by rw [HE.out]; rfl, HB.out.trans (hb2.mono HB.out.size)⟩

/-- The document's own Join. -/
theorem rjoin_any (file : Int) (s : ByteArray) (h1 : file ≤ 9223372036854775807) (hs : s.size ≤ 600) (w : World) :
    Calls Tryd.prog 11 #[.int .i64 file, .string s] w fun e w' => e = .returned (.string ⟨(joinV file s.data.toList).toArray⟩) ∧ Below w.heap.size w w' := by
  obtain ⟨J, hJ⟩ : ∃ J : ByteArray, (⟨(joinV file s.data.toList).toArray⟩ : ByteArray) = J := ⟨_, rfl⟩
  rw [hJ]
  by_cases hneg : file < 0
  · have hd : decide (file < 0) = true := by simpa using hneg
    have HE := Lib.hid (show J = ⟨#[]⟩ by rw [← hJ]; unfold joinV; rw [if_neg (by omega)])
    clear h1 hneg hJ
    go_enter Tryd.func11, Tryd.ntmps11
    go_wp2_with fail
    go_ret
    exact ⟨by rw [HE.out]; rfl, Below.refl _ _⟩
  · obtain ⟨n, rfl⟩ := Int.eq_ofNat_of_zero_le (show 0 ≤ file by omega)
    have hd : decide ((n : Int) < 0) = false := by simp
    have HI := Lib.hid (digits_any n (by omega) w)
    have hit : Lib.itoa (n : Int) = Lib.decDigits n := by unfold Lib.itoa; rw [if_neg (by omega)]; rfl
    have hds := dec_short n (by omega)
    have HJ := Lib.hid (show ∀ t : ByteArray, t.data.toList = Lib.decDigits n → (s ++ ⟨#[46, 102]⟩ ++ t : ByteArray).data.toList = glued n s.data.toList ∧ (s ++ ⟨#[46, 102]⟩ ++ t : ByteArray).size ≤ 1000 ∧ J = if checkV (glued n s.data.toList) = 0 then (s ++ ⟨#[46, 102]⟩ ++ t : ByteArray) else ⟨#[]⟩ from fun t ht => by
      have hg : (s ++ ⟨#[46, 102]⟩ ++ t : ByteArray).data.toList = glued n s.data.toList := by rw [glue_bytes, ht, ← hit]; rfl
      refine ⟨hg, ?_, ?_⟩
      · have h2 : (s ++ ⟨#[46, 102]⟩ ++ t : ByteArray).size = s.size + 2 + t.size := by simp [ByteArray.size_append]; rfl
        have h3 : t.size = t.data.toList.length := by rw [Array.length_toList]; rfl
        rw [ht] at h3
        omega
      · rw [← hJ]; unfold joinV
        by_cases hz : checkV (glued n s.data.toList) = 0
        · rw [if_pos ⟨by omega, hz⟩, if_pos hz]; exact (same_string hg).symm
        · rw [if_neg (by omega), if_neg hz])
    obtain ⟨x, hx⟩ : ∃ x, checkV (glued n s.data.toList) = x := ⟨_, rfl⟩
    have HX := Lib.hid hx
    have hfew := told_few (n := n) (k := 0) (s := ⟨(Lib.decDigits n).toArray⟩) ⟨fun _ => rfl, fun h => absurd rfl h⟩ (by omega)
    have HDS := Lib.hid (show ∀ t : ByteArray, t.data.toList = Lib.decDigits n → t.size ≤ 19 from fun t ht => told_few (n := n) (k := 0) ⟨fun _ => ht, fun h => absurd rfl h⟩ (by omega))
    clear hneg hJ hit hds hfew hx h1
    have hz : x = 0 ∨ (x == 0) = false := by
      by_cases h : x = 0
      · exact .inl h
      · exact .inr (by simpa using h)
    go_enter Tryd.func11, Tryd.ntmps11
    go_wp2_with fail
    refine HI.out.mono ?_
    rintro e w1 ⟨⟨t, rfl, ht⟩, hb⟩
    have hts := HDS.out t ht
    obtain ⟨hg, hsz, hj⟩ := HJ.out t ht
    have hc := rcheck_any (s ++ ⟨#[46, 102]⟩ ++ t) w1 hsz
    rw [hg, HX.out] at hc
    rw [HX.out] at hj
    have HC := Lib.hid hc
    have HB := Lib.hid hb
    have HJJ := Lib.hid hj
    clear hc hb hj ht hg hsz HJ HDS HX
    rcases hz with rfl | hz
    · have HE := Lib.hid (show J = (s ++ ⟨#[46, 102]⟩ ++ t : ByteArray) by rw [HJJ.out, if_pos rfl])
      go_wp2_with fail
      refine HC.out.mono ?_
      rintro e w2 ⟨rfl, q, rfl⟩
      go_wp2_with fail
      go_ret
      exact ⟨by rw [HE.out]; rfl, HB.out.trans ⟨rfl, rfl, rfl, Nat.le_refl _, fun _ _ => rfl⟩⟩
    · have HE := Lib.hid (show J = ⟨#[]⟩ by rw [HJJ.out, if_neg (by simpa using hz)])
      go_wp2_with fail
      refine HC.out.mono ?_
      rintro e w2 ⟨rfl, q, rfl⟩
      go_wp2_with fail
      go_ret
      exact ⟨by rw [HE.out]; rfl, HB.out.trans ⟨rfl, rfl, rfl, Nat.le_refl _, fun _ _ => rfl⟩⟩
end Go.Proofs.YtlpmndljjdljmaaDoor.By
