/-
  WALK: octet.Text (function 22): a new row of the call's own: what was handed in, behind it how many bytes the text has, as one byte, and so many of them.
-/
import Derived.Test.YtbknmapkdjmcjaaGreatDoorPt
import Derived.Laws.IdiomStrings
import Derived.Lib.Strings
namespace Go.Proofs.YtbknmapkdjmcjaaGreatDoor.By
open Go.ChangeShapes Go.WideShapes Go.ChangeAt Go.RowKit
open Mem

/-- What Text lays behind. -/
def textB (s : ByteArray) : List UInt8 := UInt8.ofNat (min s.size 255) :: s.data.toList.take 255

theorem size_list (s : ByteArray) : s.size = s.data.toList.length := Array.length_toList.symm

theorem textB_length (s : ByteArray) : (textB s).length ≤ 256 := by
  unfold textB
  have := List.length_take_le 255 s.data.toList
  simp only [List.length_cons]
  omega

/-- '[]byte(t)': a new row somewhere, its first cells the bytes; the capacity is not known. -/
theorem conv_row (t : ByteArray) (W : World) (hs : t.size ≤ maxLen) : ∃ (G : Nat) (R : Array Value) (fr : Nat × Nat), t.size ≤ G ∧ G ≤ maxLen ∧
    (∀ (j : Nat) (u : Value), (u8s t.data.toList)[j]? = some u → R[j]? = some u) ∧
    (convert 9 35 (.string t)).run Tryz.prog W = .ok (.slice (some ⟨W.heap.size, 0, none⟩) t.size G) (W.drew.alloc (.cells R 5 fr)) := by
  refine ⟨grownCap W t.size 0 5, bytesRow t (grownCap W t.size 0 5), _, grownCap_ge W _ _ _, grownCap_le_maxLen W _ _ _ hs, ?_, run_bytes_of_string W 9 35 5 t Tryz.underlying9 Tryz.underlying35 Tryz.underlying5⟩
  intro j u hu
  have hj : j < (u8s t.data.toList).length := (List.getElem?_eq_some_iff.1 hu).1
  rw [u8s_length] at hj
  have h0 : (t.data.map (fun b => Value.int .u8 b.toNat))[j]? = some u := by
    rw [← hu]
    simp [u8s]
  unfold bytesRow
  rw [Array.getElem?_append_left (by simpa using hj)]
  exact h0

theorem concat_three (g g2 : Nat) (A : Option Addr) (c : Nat) (vs : List Value) (ad ad2 : Addr) (k k2 c2 : Nat) (us us2 : List Value) (W : World)
    (hblk : ∀ i, i < 3 → W.cell? ⟨g, i, none⟩ = #[Value.slice A vs.length c, .slice (some ad) k k, .slice (some ad2) k2 c2][i]?) (hp1 : SlV W g2 (.slice A vs.length c) vs) (hp2 : Row W g2 ad us) (hk : us.length = k)
    (hp3 : Row W g2 ad2 us2) (hk2 : us2.length = k2) (hc2 : k2 ≤ c2) (hm2 : c2 ≤ maxLen) (hg : g2 ≤ W.heap.size)
    (h1 : ∀ u ∈ vs, u.oneCell' = true) (h2 : ∀ u ∈ us, u.oneCell' = true) (h3 : ∀ u ∈ us2, u.oneCell' = true) (hl : vs.length + k + k2 ≤ 1099511627776) :
    Calls Tryz.prog 68 #[.slice (some ⟨g, 0, none⟩) 3 3] W (Owns W (vs ++ us ++ us2)) := by
  subst hk hk2
  have h := concat_any g g2 [(A, c, vs), (some ad, us.length, us), (some ad2, c2, us2)] W (fun i hi => by
      have : i = 0 ∨ i = 1 ∨ i = 2 := by simp at hi; omega
      rcases this with rfl | rfl | rfl <;> · rw [hblk _ (by omega)]; rfl) hg
    (fun p hp => by
      rcases List.mem_cons.1 hp with rfl | hp
      · exact hp1
      · rcases List.mem_cons.1 hp with rfl | hp
        · exact .at_ ad us.length us (Nat.le_refl _) (by unfold maxLen; omega) hp2
        · rcases List.mem_cons.1 hp with rfl | hp
          · exact .at_ ad2 c2 us2 hc2 hm2 hp3
          · cases hp)
    (fun p hp => by
      rcases List.mem_cons.1 hp with rfl | hp
      · exact h1
      · rcases List.mem_cons.1 hp with rfl | hp
        · exact h2
        · rcases List.mem_cons.1 hp with rfl | hp
          · exact h3
          · cases hp)
    (by simp [flat]; omega) (by simp)
  simpa [flat] using h

/-- The third step of Text: its three parts, behind one another. -/
theorem text_core (A : Option Addr) (c : Nat) (vs : List Value) (t : ByteArray) (q : Int) (w : World) (h : SlV w w.heap.size (.slice A vs.length c) vs) (h1 : ∀ u ∈ vs, u.oneCell' = true) (hl : vs.length ≤ 1099511627000)
    (ht : t.size ≤ 255) (G : Nat) (R : Array Value) (fr : Nat × Nat) (hG : t.size ≤ G) (hGm : G ≤ maxLen) (hR : ∀ (j : Nat) (u : Value), (u8s t.data.toList)[j]? = some u → R[j]? = some u) :
    Calls Tryz.prog 68 #[.slice (some ⟨w.heap.size + 1 + 1, 0, none⟩) 3 3]
      (((w.alloc (.cells #[.int .u8 q] 5)).alloc (.cells R 5 fr)).alloc (.cells #[.slice A vs.length c, .slice (some ⟨w.heap.size, 0, none⟩) 1 1, .slice (some ⟨w.heap.size + 1, 0, none⟩) t.size G] 35)).drew
      (Owns w (vs ++ [.int .u8 q] ++ u8s t.data.toList)) := by
  have hW : Below w.heap.size w (((w.alloc (.cells #[.int .u8 q] 5)).alloc (.cells R 5 fr)).alloc (.cells #[.slice A vs.length c, .slice (some ⟨w.heap.size, 0, none⟩) 1 1, .slice (some ⟨w.heap.size + 1, 0, none⟩) t.size G] 35)).drew :=
    ((((Below.refl _ _).alloc (Nat.le_refl _) _).alloc (by simp) _).alloc (by simp; omega) _).drew
  refine (concat_three (w.heap.size + 1 + 1) (w.heap.size + 1 + 1) A c vs ⟨w.heap.size, 0, none⟩ ⟨w.heap.size + 1, 0, none⟩ 1 t.size G [.int .u8 q] (u8s t.data.toList) _ ?_ ((h.below hW).more (by omega)) ?_ rfl ?_ (by rw [u8s_length]; exact (size_list t).symm) hG hGm (by simp) h1 (by simp [Value.oneCell']) (u8s_one _) (by omega)).mono fun e w' ho => ho.back hW
  · intro i _
    have := (Blk.new ((w.alloc (.cells #[.int .u8 q] 5)).alloc (.cells R 5 fr)) 35 #[.slice A vs.length c, .slice (some ⟨w.heap.size, 0, none⟩) 1 1, .slice (some ⟨w.heap.size + 1, 0, none⟩) t.size G]).cell i
    simpa using this
  · intro j u hu
    have hj : j = 0 := by
      have := (List.getElem?_eq_some_iff.1 hu).1
      simp at this; omega
    subst hj
    refine ⟨by simp; omega, ?_⟩
    have := (((Blk.new w 5 #[.int .u8 q]).alloc (.cells R 5 fr)).alloc (.cells #[.slice A vs.length c, .slice (some ⟨w.heap.size, 0, none⟩) 1 1, .slice (some ⟨w.heap.size + 1, 0, none⟩) t.size G] 35)).cell 0
    rw [Mem.add_plain, Nat.zero_add]
    simpa using this.trans (by simpa using hu)
  · intro j u hu
    refine ⟨by simp, ?_⟩
    rw [Mem.add_plain, Nat.zero_add]
    have e1 := World.cell?_alloc_mark (w.alloc (.cells #[.int .u8 q] 5)) R 5 fr j
    have hRj := hR j u hu
    rw [hRj] at e1
    have e2 := World.cell?_alloc_lt ((w.alloc (.cells #[.int .u8 q] 5)).alloc (.cells R 5 fr)) (.cells #[.slice A vs.length c, .slice (some ⟨w.heap.size, 0, none⟩) 1 1, .slice (some ⟨w.heap.size + 1, 0, none⟩) t.size G] 35) ⟨w.heap.size + 1, j, none⟩ (by simp)
    simp only [World.size_alloc] at e1
    exact e2.trans e1

set_option maxHeartbeats 1000000 in
theorem text_yes (A : Option Addr) (c : Nat) (vs : List Value) (s : ByteArray) (w : World) (h : SlV w w.heap.size (.slice A vs.length c) vs) (h1 : ∀ u ∈ vs, u.oneCell' = true) (hl : vs.length ≤ 1099511627000)
    (h255 : s.size ≤ 255) :
    Calls Tryz.prog 274 #[.slice A vs.length c, .string s] w (Owns w (vs ++ u8s (textB s))) := by
  obtain ⟨G, R, fr, hG, hGm, hR, hrun⟩ := conv_row s (w.alloc (.cells #[.int .u8 s.size] 5)) (by unfold maxLen; omega)
  have e : vs ++ u8s (textB s) = vs ++ [.int .u8 s.size] ++ u8s s.data.toList := by
    unfold textB
    rw [List.take_of_length_le (by rw [← size_list]; exact h255), Nat.min_eq_left h255]
    simp [u8s]
    omega
  have HC := Lib.hid (text_core A c vs s s.size w h h1 hl h255 G R fr hG hGm hR)
  rw [← e] at HC
  simp only [World.size_alloc] at hrun
  unfold maxLen at hGm
  clear e h h1 hR
  generalize vs ++ u8s (textB s) = us at HC ⊢
  generalize vs.length = m at HC hl ⊢
  go_enter Tryz.func274, Tryz.ntmps274
  go_wp2_with fail
  refine HC.out.mono ?_
  rintro e w1 ⟨v1, rfl, hown, hb⟩
  go_wp2
  go_ret
  exact ⟨v1, rfl, hown, hb⟩

set_option maxHeartbeats 1000000 in
theorem text_cut (A : Option Addr) (c : Nat) (vs : List Value) (s : ByteArray) (w : World) (h : SlV w w.heap.size (.slice A vs.length c) vs) (h1 : ∀ u ∈ vs, u.oneCell' = true) (hl : vs.length ≤ 1099511627000)
    (h255 : 255 < s.size) (hs : s.size ≤ maxLen) :
    Calls Tryz.prog 274 #[.slice A vs.length c, .string s] w (Owns w (vs ++ u8s (textB s))) := by
  have hsz : (s.extract 0 255).size = 255 := by simp; omega
  have hmin : min 255 s.size = 255 := by omega
  obtain ⟨G, R, fr, hG, hGm, hR, hrun⟩ := conv_row (s.extract 0 255) (w.alloc (.cells #[.int .u8 ((min 255 s.size : Nat) : Int)] 5)) (by rw [hsz]; unfold maxLen; omega)
  have e : vs ++ u8s (textB s) = vs ++ [.int .u8 ((min 255 s.size : Nat) : Int)] ++ u8s (s.extract 0 255).data.toList := by
    unfold textB
    rw [Nat.min_eq_right (by omega), hmin, Lib.extract_data]
    simp [u8s]
  have HC := Lib.hid (text_core A c vs (s.extract 0 255) ((min 255 s.size : Nat) : Int) w h h1 hl (by omega) G R fr hG hGm hR)
  rw [← e] at HC
  simp only [World.size_alloc] at hrun
  rw [hsz] at hrun HC
  unfold maxLen at hGm hs
  clear e h h1 hR hmin hsz
  generalize vs ++ u8s (textB s) = us at HC ⊢
  generalize vs.length = m at HC hl ⊢
  go_enter Tryz.func274, Tryz.ntmps274
  go_wp2_with fail
  refine HC.out.mono ?_
  rintro e w1 ⟨v1, rfl, hown, hb⟩
  go_wp2
  go_ret
  exact ⟨v1, rfl, hown, hb⟩

/-- octet.Text, whatever the text. -/
theorem text_any (v : Value) (vs : List Value) (s : ByteArray) (w : World) (h : SlV w w.heap.size v vs) (h1 : ∀ u ∈ vs, u.oneCell' = true) (hl : vs.length ≤ 1099511627000) (hs : s.size ≤ maxLen) :
    Calls Tryz.prog 274 #[v, .string s] w (Owns w (vs ++ u8s (textB s))) := by
  have hv : ∃ A c, v = .slice A vs.length c := by
    cases h with
    | nil => exact ⟨none, 0, rfl⟩
    | at_ ad cap _ _ _ _ => exact ⟨_, _, rfl⟩
  obtain ⟨A, c, rfl⟩ := hv
  by_cases hk : s.size ≤ 255
  · exact text_yes A c vs s w h h1 hl hk
  · exact text_cut A c vs s w h h1 hl (by omega) hs
end Go.Proofs.YtbknmapkdjmcjaaGreatDoor.By
