/-
  WALK: the document's own Digits, of a number that is not below 0: the decimal digits.
-/
import Derived.Test.YtlpmndljjdljmaaDoorNr
import Derived.Lib.ItoaNum
import Derived.Laws.IdiomStrings
namespace Go.Proofs.YtlpmndljjdljmaaDoor.By
open Go.RowKit

theorem conv1 (w : World) (c : UInt8) (x : Int) (h : x = (c.toNat : Int)) :
    (convert 41 9 (.slice (some ⟨w.heap.size, 0, none⟩) 1 1)).run Tryd.prog (w.alloc (.cells #[.int .u8 x] 5)) = .ok (.string ⟨#[c]⟩) (w.alloc (.cells #[.int .u8 x] 5)) := by
  have := run_convert_bytes_back (P := Tryd.prog) (w.alloc (.cells #[.int .u8 x] 5)) 41 9 5 ⟨w.heap.size, 0, none⟩ 1 [c] Tryd.underlying41 Tryd.underlying5 Tryd.underlying9 (fun j hj => by
    obtain rfl : j = 0 := by simpa using hj
    subst h
    simp [Addr.add])
  exact this

/-- What is told already of the digits of n, when k is left. -/
def Told (n k : Nat) (s : ByteArray) : Prop := (k = 0 → s.data.toList = Lib.decDigits n) ∧ (k ≠ 0 → Lib.decDigits n = Lib.decDigits k ++ s.data.toList)

theorem told_start (n : Nat) (h : n ≠ 0) : Told n n ByteArray.empty := ⟨fun e => absurd e h, fun _ => by simp⟩

theorem told_step (n k : Nat) (s : ByteArray) (c : UInt8) (hk : k ≠ 0) (hc : c = UInt8.ofNat (48 + k % 10)) (h : Told n k s) : Told n (k / 10) (⟨#[c]⟩ ++ s) := by
  have h2 := h.2 hk
  have hd : (⟨#[c]⟩ ++ s : ByteArray).data.toList = c :: s.data.toList := by
    simp [ByteArray.data_append]
  by_cases h10 : k < 10
  · have e : Lib.decDigits k = [UInt8.ofNat (48 + k)] := Lib.decDigits_one h10
    rw [e] at h2
    refine ⟨fun _ => ?_, fun e => absurd (by omega) e⟩
    rw [hd, h2, hc, Nat.mod_eq_of_lt h10]; rfl
  · have e : Lib.decDigits k = Lib.decDigits (k / 10) ++ [UInt8.ofNat (48 + k % 10)] := by
      conv => lhs; rw [Lib.decDigits, dif_neg h10]
    rw [e] at h2
    refine ⟨fun e => absurd e (by omega), fun _ => ?_⟩
    rw [hd, h2, hc]; simp

theorem dec_few (d : Nat) : ∀ n : Nat, n < 10 ^ (d + 1) → (Lib.decDigits n).length ≤ d + 1 := by
  induction d with
  | zero => intro n h; rw [Lib.decDigits_one (by simpa using h)]; simp
  | succ d ih =>
    intro n h
    rw [Lib.decDigits]
    split
    · simp
    · have := ih (n / 10) (by rw [Nat.pow_succ] at h; omega)
      simp; omega

theorem dec_short (n : Nat) (h : n ≤ 9223372036854775808) : (Lib.decDigits n).length ≤ 19 := dec_few 18 n (by omega)

theorem told_few {n k : Nat} {s : ByteArray} (h : Told n k s) (hn : n ≤ 9223372036854775807) : s.size ≤ 19 := by
  have h1 := dec_short n (by omega)
  have h2 : s.size = s.data.toList.length := by rw [Array.length_toList]; rfl
  by_cases hk : k = 0
  · rw [← h.1 hk] at h1; omega
  · rw [h.2 hk, List.length_append] at h1; omega

set_option maxHeartbeats 2000000 in
theorem digits_pos (n : Nat) (hn : n ≠ 0) (hm : n ≤ 9223372036854775807) (w : World) :
    Calls Tryd.prog 20 #[.int .i64 n] w fun e w' => (∃ s : ByteArray, e = .returned (.string s) ∧ s.data.toList = Lib.decDigits n) ∧ Below w.heap.size w w' := by
  have h0 : ((n : Int) == 0) = false := by simp; omega
  have H0 := Lib.hid hn
  clear hn
  go_enter Tryd.func20, Tryd.ntmps20
  go_wp2_with fail
  go_loopw [3, 4] (fun v i wr => ∃ (k : Nat) (s : ByteArray), k ≤ n ∧ i = .int .i64 k ∧ v = .string s ∧ Hid (Told n k s) ∧ Hid (Below w.heap.size w wr)) (fun _ i _ => (intOf i).toNat)
  case atStart => exact ⟨n, ByteArray.empty, by omega, rfl, rfl, Lib.hid (told_start n H0.out), Lib.hid (Below.refl _ _)⟩
  case round =>
    obtain ⟨k, s, hk, rfl, rfl, HT, HB⟩ := hrel
    by_cases hz : k = 0
    · subst hz
      have HS := Lib.hid (HT.out.1 rfl)
      clear HT
      go_wp2
      go_ret
      exact ⟨⟨s, rfl, HS.out⟩, HB.out⟩
    · have hz1 : ((k : Int) == 0) = false := by simp; omega
      obtain ⟨c, hc⟩ : ∃ c : UInt8, c = UInt8.ofNat (48 + k % 10) := ⟨_, rfl⟩
      have HT2 := Lib.hid (told_step n k s c hz hc HT.out)
      have hfew := told_few HT.out hm
      have hcv := fun W => conv1 W c (48 + (k : Int) % 10) (by rw [hc]; simp; omega)
      clear HT hc
      go_wp2_with fail
      go_roundw
      case rel => exact ⟨k / 10, _, by omega, by go_num, rfl, HT2, Lib.hid (HB.out.alloc HB.out.size _)⟩
      case measure => simp [intOf]; omega

theorem digits_any (n : Nat) (hm : n ≤ 9223372036854775807) (w : World) :
    Calls Tryd.prog 20 #[.int .i64 n] w fun e w' => (∃ s : ByteArray, e = .returned (.string s) ∧ s.data.toList = Lib.decDigits n) ∧ Below w.heap.size w w' := by
  by_cases h0 : n = 0
  · subst h0
    have HE := Lib.hid (show Lib.decDigits 0 = [48] from Lib.decDigits_one (by omega))
    go_enter Tryd.func20, Tryd.ntmps20
    go_wp2
    go_ret
    exact ⟨⟨⟨#[48]⟩, rfl, by rw [HE.out]⟩, Below.refl _ _⟩
  · exact digits_pos n h0 hm w
end Go.Proofs.YtlpmndljjdljmaaDoor.By
