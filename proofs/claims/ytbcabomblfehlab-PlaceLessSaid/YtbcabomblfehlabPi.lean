/-
  Ym, Yc, Yr
-/
import Derived.WalkKit
import Derived.Test.YtbcabomblfehlabRows
import Derived.ProofKit
import Derived.WalkSpells
import Derived.WalkLawsBesides
import Derived.Lib.Hide
import Derived.Lib.OthersKept
import Derived.Laws.RangeAny
import Derived.LoopTactic
import Derived.Below

namespace Go.Proofs.Ytbcabomblfehlab.Nam
open Go.RowKit

/-- A digit, as a rune. -/
def digR (c : Int) : Bool := decide (48 ≤ c ∧ c ≤ 57)

/-- What may stand in a name, as a rune. -/
def mayR (c : Int) : Bool := decide ((97 ≤ c ∧ c ≤ 122) ∨ (48 ≤ c ∧ c ≤ 57) ∨ c = 95 ∨ c = 46)

/-- May it stand there, at that place? -/
def okAt (j : Nat) (x : UInt8) : Bool := mayR x.toNat && !(decide (j = 0) && digR x.toNat)

/-- Has the text a name's bytes, however many? -/
def spelt (l : List UInt8) : Bool := decide (l ≠ [] ∧ ∀ j (h : j < l.length), okAt j l[j] = true)

/-- What keeps a text from being a name. -/
def checkV (l : List UInt8) : Int := if 24 < l.length then 6 else if spelt l then 0 else 7

theorem not_spelt {l : List UInt8} {j : Nat} (h : j < l.length) (hn : okAt j l[j] = false) : spelt l = false := by
  unfold spelt
  rw [decide_eq_false_iff_not]
  intro hh
  have := hh.2 j h
  rw [hn] at this
  cases this

theorem is_spelt {l : List UInt8} (h : ∀ j (h : j < l.length), okAt j l[j] = true) : spelt l = !l.isEmpty := by
  unfold spelt
  cases l with
  | nil => simp
  | cons x l => simp; exact fun j hj => h j (by simpa using hj)

end Go.Proofs.Ytbcabomblfehlab.Nam

namespace Go.Proofs.Ytbcabomblfehlab.Nq
open Go.RowKit
open Nam

theorem ret_bool {a b : Bool} (h : a = b) : Ending.returned (.bool a) = .returned (.bool b) := by rw [h]

end Go.Proofs.Ytbcabomblfehlab.Nq

namespace Go.Proofs.Ytbcabomblfehlab.Nq
open Go.RowKit
open Nam

/-- The document's own may: of a byte, at the front or not. -/
theorem may_is (c : Int) (first b : Bool) (h0 : 0 ≤ c ∧ c < 256) (h : (mayR c && !(first && digR c)) = b) (w : World) : Calls Try.prog 71 #[.int .u8 c, .bool first] w fun e w' => e = .returned (.bool b) ∧ w = w' := by
  have hb : (97 ≤ c ∧ c ≤ 122 ∧ b = true) ∨ ((c == 95) = true ∧ c < 97 ∧ b = true) ∨ ((c == 95) = false ∧ (c == 46) = true ∧ c < 97 ∧ b = true)
      ∨ ((c == 95) = false ∧ (c == 46) = false ∧ 48 ≤ c ∧ c ≤ 57 ∧ c < 97 ∧ b = !first) ∨ ((c == 95) = false ∧ (c == 46) = false ∧ c < 48 ∧ c < 97 ∧ b = false) ∨ ((c == 95) = false ∧ (c == 46) = false ∧ 57 < c ∧ c < 97 ∧ b = false) ∨ ((c == 95) = false ∧ (c == 46) = false ∧ 122 < c ∧ b = false) := by
    subst h; unfold mayR digR; cases first <;> simp <;> omega
  clear h
  rcases hb with ⟨h1, h2, rfl⟩ | ⟨h1, h2, rfl⟩ | ⟨h1, h2, h3, rfl⟩ | ⟨h1, h2, h3, h4, h5, rfl⟩ | ⟨h1, h2, h3, h4, rfl⟩ | ⟨h1, h2, h3, h4, rfl⟩ | ⟨h1, h2, h3, rfl⟩
  all_goals
    cases first
    all_goals
      go_enter Try.func71, Try.ntmps71
      go_wp2
      all_goals go_ret
      all_goals exact ⟨ret_bool (by first | rfl | (simp; omega)), rfl⟩

/-- What a text of at most 24 bytes answers. -/
def codeV (l : List UInt8) : Int := if spelt l then 0 else 7

theorem ret_i64 {a b : Int} (h : a = b) : Ending.returned (.int .i64 a) = .returned (.int .i64 b) := by rw [h]

set_option maxHeartbeats 2000000 in
/-- The document's own Check. -/
theorem nmCheck_any (s : ByteArray) (w : World) (hs : s.size ≤ 1000) :
    Calls Try.prog 63 #[.string s] w fun e w' => e = .returned (.int .i64 (checkV s.data.toList)) ∧ ∃ n, w' = w.drewN n := by
  by_cases h : 24 < s.size
  · have hd : decide (24 < (s.size : Int)) = true := by simp; omega
    have HE := Lib.hid (show checkV s.data.toList = 6 by unfold checkV; rw [if_pos (by simpa using h)])
    rw [HE.out]
    clear hs h
    go_enter Try.func63, Try.ntmps63
    go_wp2
    go_ret
    exact ⟨rfl, 0, rfl⟩
  · have hd : decide (24 < (s.size : Int)) = false := by simp; omega
    have hE : checkV s.data.toList = codeV s.data.toList := by unfold checkV codeV; rw [if_neg (by simpa using h)]
    rw [hE]
    have hs2 : s.size ≤ 24 := by omega
    clear hs h hE
    by_cases hemp : s.data.toList = []
    · have he : s.toList = [] := by rw [ByteArray.toList_eq]; exact hemp
      have HF := Lib.hid (show codeV s.data.toList = 7 by rw [hemp]; rfl)
      rw [HF.out]
      clear hemp
      go_enter Try.func63, Try.ntmps63
      go_wp2
      go_ret
      exact ⟨rfl, 0, rfl⟩
    · have he : s.toList.isEmpty = false := by
        rw [ByteArray.toList_eq]
        cases hh : s.data.toList with
        | nil => exact absurd hh hemp
        | cons _ _ => rfl
      have he2 : s.toList ≠ [] := by
        rw [ByteArray.toList_eq]; exact hemp
      have HNE := Lib.hid hemp
      clear hemp
      go_enter Try.func63, Try.ntmps63
      go_wp2_with fail
      go_loop [3] (fun i => ∃ k : Nat, k ≤ s.size ∧ i = .int .i64 k ∧ Hid (∀ j (h : j < s.data.toList.length), j < k → okAt j s.data.toList[j] = true)) (fun i => s.size - (intOf i).toNat)
      case atStart => exact ⟨0, by omega, rfl, Lib.hid (fun j _ h => by omega)⟩
      case round =>
        obtain ⟨k, hk, rfl, HO⟩ := hrel
        by_cases hlt : k < s.size
        · have hpl : k < s.data.toList.length := by simpa using hlt
          have HG : Hid (s.data.toList[k] = s[k]'hlt) := Lib.hid (by simp [ByteArray.getElem_eq_getElem_data])
          have hb := (s[k]'hlt).toNat_lt
          have hfirst : ∃ first : Bool, first = decide (k = 0) := ⟨_, rfl⟩
          obtain ⟨first, hfirst⟩ := hfirst
          have HM := Lib.hid (may_is ((s[k]'hlt).toNat : Int) first (okAt k (s[k]'hlt)) (by omega) (by rw [hfirst]; rfl))
          have HNO := Lib.hid (show okAt k (s[k]'hlt) = false → spelt s.data.toList = false from fun hn => not_spelt hpl (by rw [HG.out]; exact hn))
          have HYES := Lib.hid (show okAt k (s[k]'hlt) = true → ∀ j (h : j < s.data.toList.length), j < k + 1 → okAt j s.data.toList[j] = true from fun hy j hj hjk => by
            by_cases hjp : j = k
            · subst hjp; rw [HG.out]; exact hy
            · exact HO.out j hj (by omega))
          have hz : (k = 0 ∧ first = true) ∨ (((k : Int) == 0) = false ∧ first = false) := by
            by_cases h0 : k = 0
            · exact .inl ⟨h0, by rw [hfirst]; simp [h0]⟩
            · exact .inr ⟨by simp; omega, by rw [hfirst]; simp [h0]⟩
          clear hfirst HO hpl HG
          generalize okAt k (s[k]'hlt) = ok at HM HNO HYES
          rcases hz with ⟨rfl, rfl⟩ | ⟨hz, rfl⟩
          all_goals
            cases ok
            · have HF := Lib.hid (HNO.out rfl)
              go_wp2_with (go_at_call 71; refine (HM.out _).mono ?_; rintro e w' ⟨rfl, rfl⟩)
              go_ret
              exact ⟨ret_i64 (by unfold codeV; rw [HF.out]; rfl), 0, rfl⟩
            · have HO2 := Lib.hid (HYES.out rfl)
              go_wp2_with (go_at_call 71; refine (HM.out _).mono ?_; rintro e w' ⟨rfl, rfl⟩)
              go_round
              case rel => exact ⟨_, by omega, by go_num, HO2⟩
              case measure => simp [intOf]; omega
        · have HF := Lib.hid (is_spelt (l := s.data.toList) (fun j hj => HO.out j hj (by simp at hj; omega)))
          have HE : Hid (s.data.toList.isEmpty = false) := Lib.hid (by
            cases hh : s.data.toList with
            | nil => exact absurd hh HNE.out
            | cons _ _ => rfl)
          clear HO
          go_wp2
          go_ret
          exact ⟨ret_i64 (by unfold codeV; rw [HF.out, HE.out]; rfl), 0, rfl⟩
end Go.Proofs.Ytbcabomblfehlab.Nq
