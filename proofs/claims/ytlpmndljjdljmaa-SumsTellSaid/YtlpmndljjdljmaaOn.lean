/-
  WALKS: sum.Open and the document's own Open: the error that they answer, and the bytes.
-/
import Derived.Test.YtlpmndljjdljmaaSl
import Derived.Test.YtlpmndljjdljmaaRt
import Derived.Deep.RegionHeld3
namespace Go.Proofs.Ytlpmndljjdljmaa.By
open Go.ChangeShapes Go.WideShapes Go.ChangeAt Go.RowKit
open Mem Sm

/-- What Open leaves: an error, and bytes that read as those that the document says. -/
def Opens (w : World) (l : List UInt8) (e : Ending) (w' : World) : Prop :=
  ∃ v, e = .returned (.tuple #[v, .int .i64 (openE l)]) ∧ SlV w' w'.heap.size v (u8s (openB l)) ∧ Below w.heap.size w w'

theorem openE_short (l : List UInt8) (h : l.length < 4) : openE l = 5 ∧ openB l = [] := by
  unfold openE openB; rw [if_pos h, if_pos h]; exact ⟨rfl, rfl⟩
theorem openE_ok (l : List UInt8) (h : ¬ l.length < 4) (ht : tailOK l = true) : openE l = 0 ∧ openB l = l.take (l.length - 4) := by
  unfold openE openB; rw [if_neg h, if_neg h, if_pos ht, if_pos ht]; exact ⟨rfl, rfl⟩
theorem openE_bad (l : List UInt8) (h : ¬ l.length < 4) (ht : tailOK l = false) : openE l = 4 ∧ openB l = [] := by
  unfold openE openB; rw [if_neg h, if_neg h, if_neg (by rw [ht]; decide), if_neg (by rw [ht]; decide)]; exact ⟨rfl, rfl⟩

theorem open_short (w : World) (l : List UInt8) (v : Value) (h : SlV w w.heap.size v (u8s l)) (hl : l.length < 4) :
    Calls Try.prog 18 #[v] w (Opens w l) := by
  have HE := Lib.hid (openE_short l hl)
  have hv := h.form
  rw [u8s_length] at hv
  obtain ⟨A, c, rfl⟩ := hv
  have hd : decide ((l.length : Int) < 4) = true := by simp; omega
  clear h hl
  unfold Opens
  generalize l.length = n at hd ⊢
  go_enter Try.func18, Try.ntmps18
  go_wp2_with fail
  go_ret2
  refine ⟨.slice none 0 0, ?_, by rw [HE.out.2]; exact .nil, Below.refl _ _⟩
  rw [HE.out.1]; rfl

theorem ropen_short (w : World) (l : List UInt8) (v : Value) (h : SlV w w.heap.size v (u8s l)) (hl : l.length < 4) :
    Calls Try.prog 19 #[v] w (Opens w l) := by
  have HE := Lib.hid (openE_short l hl)
  have hv := h.form
  rw [u8s_length] at hv
  obtain ⟨A, c, rfl⟩ := hv
  have hl2 : (l.length : Int) - 4 < 0 := by omega
  clear h hl
  unfold Opens
  generalize l.length = n at hl2 ⊢
  go_enter Try.func19, Try.ntmps19
  go_wp2_with fail
  go_ret2
  refine ⟨.slice none 0 0, ?_, by rw [HE.out.2]; exact .nil, Below.refl _ _⟩
  rw [HE.out.1]; rfl

theorem read4 (d : List UInt8) (h : d.length = 4) : readV false d 0 true 4 = numV false d ∧ readP d 0 true 4 = 4 ∧ fitsB d 0 true 4 = true := by
  have hf : fitsB d 0 true 4 = true := by unfold fitsB; simp [h]
  unfold readV readP
  rw [if_pos hf, if_pos hf]
  refine ⟨?_, rfl, hf⟩
  rw [List.drop_zero, show (4 : Int).toNat = 4 from rfl, List.take_of_length_le (by omega)]

set_option maxHeartbeats 1000000 in
theorem open_long (w : World) (l : List UInt8) (v : Value) (h : SlV w w.heap.size v (u8s l)) (hl : ¬ l.length < 4) (hm : l.length ≤ 1000000) :
    Calls Try.prog 18 #[v] w (Opens w l) := by
  rcases h.form with ⟨A, c, rfl⟩
  rcases h.inv with ⟨_, h0, _, _⟩ | ⟨ad, rfl, _, hc, hcm, hr⟩
  · rw [u8s_length] at h0; omega
  rw [u8s_length] at hc
  obtain ⟨n, hn⟩ : ∃ n, l.length = n + 4 := ⟨l.length - 4, by omega⟩
  have HX := Lib.hid (show SlV w w.heap.size (.slice (some ad) n c) (u8s (l.take n)) from by
    have h1 : u8s (l.take n) = (u8s l).take n := by simp [u8s, List.map_take]
    have h2 := SlV.at_ ad c (u8s (l.take n)) (by rw [u8s_length, List.length_take]; omega) hcm (by rw [h1]; exact hr.take n)
    rwa [u8s_length, List.length_take, Nat.min_eq_left (by omega)] at h2)
  have HD := Lib.hid (show SlV w w.heap.size (.slice (some (ad.add n)) 4 (c - n)) (u8s (l.drop n)) from by
    have h1 : u8s (l.drop n) = (u8s l).drop n := by simp [u8s, List.map_drop]
    have h2 := SlV.at_ (ad.add n) (c - n) (u8s (l.drop n)) (by rw [u8s_length, List.length_drop]; omega) (by omega) (by rw [h1]; exact hr.drop n)
    rwa [u8s_length, List.length_drop, hn, Nat.add_sub_cancel_left] at h2)
  have HDL := Lib.hid (show (l.drop n).length = 4 by rw [List.length_drop]; omega)
  have HXL := Lib.hid (show (l.take n).length ≤ 1000000 by rw [List.length_take]; omega)
  have HT := Lib.hid (show tailOK l = decide (numV false (l.drop n) = (sumV (l.take n) : Int)) by unfold tailOK; rw [hn, Nat.add_sub_cancel])
  have HTK := Lib.hid (show l.take (l.length - 4) = l.take n by rw [hn, Nat.add_sub_cancel])
  have HOK := Lib.hid (openE_ok l hl)
  have HBAD := Lib.hid (openE_bad l hl)
  unfold maxLen at hcm
  rw [u8s_length]
  rw [hn] at hc hm ⊢
  have hne : ¬ n = c := by omega
  clear h hr hl hn
  generalize l.take n = x at HX HXL HT HTK
  generalize l.drop n = d at HD HDL HT
  go_enter Try.func18, Try.ntmps18
  go_wp2_with fail
  go_quiet (fail)
  go_wp2_with fail
  refine (new_any _ d (w.drewN nq) w.heap.size (HD.out.keep fun _ _ => rfl) (by rw [HDL.out]; decide)).mono ?_
  rintro e w1 ⟨g, A1, c1, rfl, hg, hrd, hb1⟩
  have HB1 := Lib.hid ((below_drewN (Below.refl w.heap.size w) nq).trans hb1)
  have hg0 : w.heap.size ≤ g := hg
  have HN := Lib.hid (num_any w1 g A1 c1 d 0 true hrd 4)
  have hgl := hrd.blk.lt
  clear hrd hb1 hg
  unfold Read at HN
  rw [(read4 d HDL.out).1, (read4 d HDL.out).2.1, (read4 d HDL.out).2.2] at HN
  go_wp2_with fail
  refine HN.out.mono ?_
  rintro e w2 ⟨rfl, _, hon⟩
  have hsz := HB1.out.size
  have HB2 := Lib.hid (below_of_only HB1.out hon (by omega) hg0)
  clear hon HN HB1 hsz
  have HO := Lib.hid (of_any w2 x w.heap.size (.slice (some ad) n c) (HX.out.below HB2.out) HB2.out.size)
  go_wp2_with fail
  refine HO.out.mono ?_
  rintro e w3 ⟨rfl, hb3⟩
  have HB3 := Lib.hid (HB2.out.trans (hb3.mono HB2.out.size))
  clear hb3 HO
  by_cases ht : tailOK l = true
  · have HOK1 := Lib.hid (HOK.out ht)
    have he : numV false d = (sumV x : Int) := by rw [HT.out] at ht; simpa using ht
    rw [he]
    clear ht he HBAD HOK
    generalize sumV x = s
    go_wp2_with fail
    refine (clone_any (.slice (some ad) n c) (u8s x) w3 w.heap.size (HX.out.below HB3.out) (u8s_one x) (by rw [u8s_length]; have := HXL.out; omega)).mono ?_
    rintro e w4 ⟨v4, rfl, hown, hb4⟩
    have HV := Lib.hid (SlV.of_own hown)
    have HB4 := Lib.hid (HB3.out.trans (hb4.mono HB3.out.size))
    clear hown hb4
    go_wp2_with fail
    go_ret2
    refine ⟨v4, ?_, ?_, HB4.out⟩
    · rw [HOK1.out.1]; rfl
    · rw [HOK1.out.2, HTK.out]; exact HV.out
  · have hf : tailOK l = false := by simpa using ht
    have HBAD1 := Lib.hid (HBAD.out hf)
    have he : ¬ numV false d = (sumV x : Int) := by rw [HT.out] at ht; simpa using ht
    clear ht hf HBAD HOK
    generalize numV false d = D at he ⊢
    generalize (sumV x : Int) = s at he ⊢
    have h1 : (D == s) = false := by simpa using he
    have h2 : (D != s) = true := by simpa using he
    clear he
    go_wp2_with fail
    go_ret2
    refine ⟨.slice none 0 0, ?_, ?_, HB3.out⟩
    · rw [HBAD1.out.1]; rfl
    · rw [HBAD1.out.2]; exact .nil
end Go.Proofs.Ytlpmndljjdljmaa.By
