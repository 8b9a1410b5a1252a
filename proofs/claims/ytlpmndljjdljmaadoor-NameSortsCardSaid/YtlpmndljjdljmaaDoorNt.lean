/-
  WALK: the document's own Sort of names: what it answers is what name.Sort answers.
-/
import Derived.Test.YtlpmndljjdljmaaDoorNs
import Derived.Test.YtlpmndljjdljmaaDoorAp
import Derived.Deep.QuietTactic
import Derived.BigQuiet
import Derived.Sort.Walk0
namespace Go.Proofs.YtlpmndljjdljmaaDoor.By
open Go.RowKit
open Mem Nam

theorem ins_rises (acc : List Bs) (y : Bs) (k : Nat) (h : acc.Pairwise (· < ·)) (hy : y ∉ acc) (hgt : ∀ x ∈ acc.drop k, y < x) (hle : k = 0 ∨ ∃ h : k - 1 < acc.length, 0 < k ∧ ¬ y < acc[k - 1]) : (acc.take k ++ y :: acc.drop k).Pairwise (· < ·) := by
  have hs : (acc.take k ++ acc.drop k).Pairwise (· < ·) := by rw [List.take_append_drop]; exact h
  rw [List.pairwise_append] at hs ⊢
  obtain ⟨h1, h2, h3⟩ := hs
  refine ⟨h1, List.pairwise_cons.2 ⟨hgt, h2⟩, ?_⟩
  intro a ha b hb
  rcases List.mem_cons.1 hb with rfl | hb
  · rcases hle with rfl | ⟨hk, hk0, hn⟩
    · simp at ha
    · have hlast : acc[k - 1] < b := lt_of_le_ne (List.not_lt.1 hn) (fun e => hy (by rw [← e]; exact List.getElem_mem hk))
      obtain ⟨i, hi, rfl⟩ := List.getElem_of_mem ha
      rw [List.length_take] at hi
      rw [List.getElem_take]
      by_cases e : i = k - 1
      · subst e; exact hlast
      · exact List.lt_trans (List.pairwise_iff_getElem.1 h i (k - 1) (by omega) hk (by omega)) hlast
  · exact h3 a ha b hb

theorem ins_mem (acc : List Bs) (y : Bs) (k : Nat) (x : Bs) : x ∈ acc.take k ++ y :: acc.drop k ↔ x ∈ acc ∨ x = y := by
  have : x ∈ acc ↔ x ∈ acc.take k ∨ x ∈ acc.drop k := by
    rw [← List.mem_append, List.take_append_drop]
  rw [List.mem_append, List.mem_cons, this]
  constructor
  · rintro (h | h | h)
    · exact .inl (.inl h)
    · exact .inr h
    · exact .inl (.inr h)
  · rintro ((h | h) | h)
    · exact .inl h
    · exact .inr (.inr h)
    · exact .inr (.inl h)

theorem swap_step (acc : List Bs) (y : Bs) (k : Nat) (hk : k < acc.length) :
    ((strs (acc.take (k + 1) ++ y :: acc.drop (k + 1))).set (k + 1) (.string ⟨acc[k].toArray⟩)).set k (.string ⟨y.toArray⟩) = strs (acc.take k ++ y :: acc.drop k) := by
  have hA : (strs (acc.take k)).length = k := by rw [strs_length, List.length_take]; omega
  rw [List.take_succ_eq_append_getElem hk, show acc.drop k = acc[k] :: acc.drop (k + 1) from List.drop_eq_getElem_cons hk, strs_append, strs_append, strs_append, List.append_assoc]
  rw [List.set_append_right _ _ (by omega), List.set_append_right _ _ (by omega), hA, show k + 1 - k = 1 by omega, Nat.sub_self]
  rfl

theorem ins_len (acc : List Bs) (y : Bs) (k : Nat) : (acc.take k ++ y :: acc.drop k).length = acc.length + 1 := by
  simp only [List.length_append, List.length_take, List.length_cons, List.length_drop]
  omega

theorem ins_end (acc : List Bs) (y : Bs) : acc.take acc.length ++ y :: acc.drop acc.length = acc ++ [y] := by simp

/-- How far the document's own Sort has come. -/
structure Sorting (B : Nat) (l : List Bs) (i : Nat) (acc : List Bs) (v : Value) (w w' : World) : Prop where
  own : w'.ownsRow B 9 1 v acc.length (strs acc)
  rise : acc.Pairwise (· < ·)
  mem : ∀ x, x ∈ acc ↔ x ∈ l.take i ∧ odd x = false
  few : acc.length ≤ i
  below : Below B w w'

theorem mem_next {l : List Bs} {i : Nat} (hi : i < l.length) (x : Bs) : x ∈ l.take (i + 1) ↔ x ∈ l.take i ∨ x = l[i] := by
  rw [List.take_succ_eq_append_getElem hi, List.mem_append, List.mem_singleton]

theorem sorting_skip {B : Nat} {l : List Bs} {i : Nat} {acc : List Bs} {v : Value} {w w' w2 : World} (h : Sorting B l i acc v w w') (hB : B ≤ w'.heap.size) (hi : i < l.length) (hs : odd l[i] = true ∨ l[i] ∈ acc) (hb : Below w'.heap.size w' w2) : Sorting B l (i + 1) acc v w w2 := by
  refine ⟨own_kept h.own hb, h.rise, fun x => ?_, Nat.le_succ_of_le h.few, h.below.trans (hb.mono hB)⟩
  rw [h.mem, mem_next hi]
  constructor
  · rintro ⟨h1, h2⟩; exact ⟨.inl h1, h2⟩
  · rintro ⟨h1 | h1, h2⟩
    · exact ⟨h1, h2⟩
    · subst h1
      rcases hs with hs | hs
      · rw [hs] at h2; cases h2
      · exact (h.mem _).1 hs

theorem sorting_lay {B : Nat} {l : List Bs} {i : Nat} {acc : List Bs} {v v2 : Value} {w w' w2 : World} (h : Sorting B l i acc v w w') (hi : i < l.length) (ho : odd l[i] = false) (hn : l[i] ∉ acc) (k : Nat)
    (hown : w2.ownsRow B 9 1 v2 (acc.length + 1) (strs (acc.take k ++ l[i] :: acc.drop k))) (hgt : ∀ x ∈ acc.drop k, l[i] < x) (hle : k = 0 ∨ ∃ h : k - 1 < acc.length, 0 < k ∧ ¬ l[i] < acc[k - 1]) (hb : Below B w w2) :
    Sorting B l (i + 1) (acc.take k ++ l[i] :: acc.drop k) v2 w w2 := by
  refine ⟨by rw [ins_len]; exact hown, ins_rises acc _ k h.rise hn hgt hle, fun x => ?_, by rw [ins_len]; have := h.few; omega, hb⟩
  rw [ins_mem, h.mem, mem_next hi]
  constructor
  · rintro (⟨h1, h2⟩ | h1)
    · exact ⟨.inl h1, h2⟩
    · subst h1; exact ⟨.inr rfl, ho⟩
  · rintro ⟨h1 | h1, h2⟩
    · exact .inl ⟨h1, h2⟩
    · exact .inr h1

theorem sorting_end {B : Nat} {l : List Bs} {acc : List Bs} {v : Value} {w w' : World} (h : Sorting B l l.length acc v w w') : acc = sortV l := by
  refine rising_eq h.rise (sort_rises l) fun x => ?_
  rw [h.mem, List.take_length, mem_sort]

set_option maxHeartbeats 4000000 in
theorem rsort_any (w : World) (v : Value) (l : List Bs) (h : SlV w w.heap.size v (strs l)) (hl : l.length ≤ 100000) (hsz : ∀ x ∈ l, x.length ≤ 600) :
    Calls Tryd.prog 16 #[v] w (TextsAre w (sortV l)) := by
  have hv := h.form
  rw [strs_length] at hv
  obtain ⟨A, c, rfl⟩ := hv
  have HC := Lib.hid (show ∀ j (hj : j < l.length), ∃ ad, A = some ad ∧ l.length ≤ c ∧ ad.block < w.heap.size ∧ w.cell? (ad.add j) = some (.string ⟨l[j].toArray⟩) from fun j hj => by
    rcases h.inv with ⟨_, h0, _⟩ | ⟨ad, e, _, h2, _, hr⟩
    · omega
    · have := hr j (.string ⟨l[j].toArray⟩) (by simp [strs, hj]); exact ⟨ad, e, h2, this.1, this.2⟩)
  clear h
  obtain ⟨n, hn⟩ : ∃ n, l.length = n := ⟨_, rfl⟩
  have HN := Lib.hid hn
  have HSZ := Lib.hid hsz
  rw [hn] at hl ⊢
  clear hn hsz
  obtain ⟨i0, hi0, hz0, hz1, hz2⟩ := info_parts info9
  go_enter Tryd.func16, Tryd.ntmps16
  go_wp2_with fail
  go_loopw [3, 4] (fun v vi wr => ∃ (i : Nat) (acc : List Bs), i ≤ n ∧ vi = .int .i64 i ∧ Hid (Sorting w.heap.size l i acc v w wr)) (fun _ vi _ => n - (intOf vi).toNat)
  case atStart => exact ⟨0, [], by omega, rfl, Lib.hid ⟨World.ownsRow_nil _ _ _ _, List.Pairwise.nil, by simp, by simp, Below.refl _ _⟩⟩
  case round =>
    obtain ⟨i, acc, hi, rfl, HS⟩ := hrel
    by_cases hlt : i < n
    · have hil : i < l.length := by rw [HN.out]; exact hlt
      obtain ⟨ad, rfl, hnc, hbl, hx0⟩ := HC.out i hil
      rw [HN.out] at hnc
      have hx := (HS.out.below.cell (p := ad.add i) (by rw [add_block]; exact hbl)).trans hx0
      obtain ⟨t, ht⟩ : ∃ t : ByteArray, (⟨l[i].toArray⟩ : ByteArray) = t := ⟨_, rfl⟩
      have htl : t.data.toList = l[i] := by rw [← ht]
      have hck := rcheck_any t wr (by have := HSZ.out l[i] (List.getElem_mem hil); have e : t.size = t.data.toList.length := by rw [Array.length_toList]; rfl
                                      rw [htl] at e; omega)
      rw [htl] at hck
      rw [ht] at hx
      have hBw := HS.out.below.size
      have HFI := Lib.hid (show ∀ q, Calls Tryd.prog 13 #[u3, .string t] (wr.drewN q) fun e w' => e = .returned (.int .i64 (idxV acc l[i])) ∧ ∃ n, w' = (wr.drewN q).drewN n from fun q => by
        have := rfind_any (wr.drewN q) wr.heap.size u3 acc t ((SlV.of_own HS.out.own).keep fun _ _ => rfl) (by have := HS.out.few; omega)
        rw [htl] at this
        exact this)
      have hbad : (odd l[i] = true ∧ (checkV l[i] == 0) = false) ∨ (odd l[i] = false ∧ checkV l[i] = 0) := by
        unfold odd
        by_cases h : checkV l[i] = 0
        · exact .inr ⟨by simp [h], h⟩
        · exact .inl ⟨by simp [h], by simpa using h⟩
      clear hx0
      generalize checkV l[i] = cv at hck hbad
      have HCK := Lib.hid hck
      clear hck
      rcases hbad with ⟨ho, hcv⟩ | ⟨ho, rfl⟩
      · have hcv2 : (cv != 0) = true := by unfold bne; rw [hcv]; rfl
        have HS2 := Lib.hid (show ∀ q, Sorting w.heap.size l (i + 1) acc u3 w (wr.drewN q) from fun q => sorting_skip HS.out hBw hil (.inl ho) (below_drewN (Below.refl _ _) q))
        clear ho htl ht hil HFI HS
        go_wp2_with fail
        refine HCK.out.mono ?_
        rintro e w2 ⟨rfl, q, rfl⟩
        go_wp2_with fail
        go_roundw
        case rel => exact ⟨i + 1, acc, by omega, by go_num, Lib.hid (HS2.out q)⟩
        case measure => simp [intOf]; omega
      · have hid : (0 ≤ idxV acc l[i] ∧ l[i] ∈ acc) ∨ (idxV acc l[i] < 0 ∧ l[i] ∉ acc) := by
          by_cases hm : l[i] ∈ acc
          · exact .inl ⟨by have := (idx_neg acc l[i]); by_cases h : idxV acc l[i] < 0; exact absurd hm (this.1 h); omega, hm⟩
          · exact .inr ⟨(idx_neg acc l[i]).2 hm, hm⟩
        generalize idxV acc l[i] = d at HFI hid
        rcases hid with ⟨hd, hm⟩ | ⟨hd, hnm⟩
        · have hd2 : decide (0 ≤ d) = true := by simpa using hd
          have HS2 := Lib.hid (show ∀ w2, Below wr.heap.size wr w2 → Sorting w.heap.size l (i + 1) acc u3 w w2 from fun w2 hb => sorting_skip HS.out hBw hil (.inr hm) hb)
          clear ho htl ht hil HS hm hd
          go_wp2_with fail
          refine HCK.out.mono ?_
          rintro e w2 ⟨rfl, q, rfl⟩
          go_wp2_with fail
          refine (HFI.out q).mono ?_
          rintro e w3 ⟨rfl, q2, hw3⟩
          have HB3 := Lib.hid (show Below wr.heap.size wr w3 by rw [hw3]; exact below_drewN (below_drewN (Below.refl _ _) q) q2)
          clear hw3 hx
          go_wp2_with fail
          go_roundw
          case rel => exact ⟨i + 1, acc, by omega, by go_num, Lib.hid (HS2.out w3 HB3.out)⟩
          case measure => simp [intOf]; omega
        · have hd2 : decide (0 ≤ d) = false := by simp; omega
          have hfew := HS.out.few
          obtain ⟨y, hy⟩ : ∃ y, l[i] = y := ⟨_, rfl⟩
          have HLAY := Lib.hid (show ∀ k v2 w2, w2.ownsRow w.heap.size 9 1 v2 (acc.length + 1) (strs (acc.take k ++ y :: acc.drop k)) → (∀ x ∈ acc.drop k, y < x) → (k = 0 ∨ ∃ h : k - 1 < acc.length, 0 < k ∧ ¬ y < acc[k - 1]) → Below w.heap.size w w2 → Sorting w.heap.size l (i + 1) (acc.take k ++ y :: acc.drop k) v2 w w2 from by
            subst hy; exact fun k v2 w2 h1 h2 h3 h4 => sorting_lay HS.out hil ho hnm k h1 h2 h3 h4)
          rw [hy] at ht
          have HT := Lib.hid ht
          clear ho htl ht hnm hd hy hil
          go_wp2_with fail
          refine HCK.out.mono ?_
          rintro e w2 ⟨rfl, q, rfl⟩
          go_wp2_with fail
          refine (HFI.out q).mono ?_
          rintro e w3 ⟨rfl, q2, hw3⟩
          have HB3 := Lib.hid (show Below wr.heap.size wr w3 by rw [hw3]; exact below_drewN (below_drewN (Below.refl _ _) q) q2)
          have HO3 := Lib.hid ((own_kept HS.out.own HB3.out).alloc (.cells #[.string t] 9))
          have hx3 := (HB3.out.cell (p := ad.add i) (World.block_lt_of_cell? wr _ hx)).trans hx
          have hsz3 : w.heap.size ≤ (w3.alloc (.cells #[.string t] 9)).heap.size := by have := HB3.out.size; simp; omega
          have HBW := Lib.hid ((HS.out.below.trans (HB3.out.mono hBw)).alloc (show w.heap.size ≤ w3.heap.size by have := HB3.out.size; omega) (.cells #[.string t] 9))
          have HSRC := Lib.hid (show SlV (w3.alloc (.cells #[.string t] 9)) (w3.heap.size + 1) (.slice (some ⟨w3.heap.size, 0, none⟩) 1 1) (strs [y]) from by
            have := SlV.new w3 (strs [y]) 9 (by simp [strs, maxLen])
            rw [show (strs [y]).toArray = #[.string t] by simp [strs, HT.out]] at this
            exact this)
          have c2 : (strs acc).length + (strs [y]).length ≤ maxLen := by rw [strs_length, strs_length]; unfold maxLen; simp; omega
          have c3 : ((strs acc).length + (strs [y]).length) * 16 ≤ 140737488355328 := by rw [strs_length, strs_length]; simp; omega
          have HLA := Lib.hid (show (strs acc).length = acc.length from strs_length acc)
          rw [← HLA.out] at HO3
          obtain ⟨m, hmm⟩ : ∃ m, acc.length = m := ⟨_, rfl⟩
          have HM := Lib.hid hmm
          have HLEN := Lib.hid (show (strs acc ++ strs [y]).length = m + 1 by rw [List.length_append, HLA.out, hmm]; rfl)
          have hmi : m ≤ i := by omega
          clear hmm
          clear hw3 hx HFI HCK
          go_wp2_with (at_builtin; go_must (refine Mem.wpList_append_slv _ rfl (.tmp 28) (.tmp 33) _ rfl w.heap.size 9 i0 (.string ByteArray.empty) 16 Tryd.underlying22 hi0 hz0 hz1 hz2 rfl u3 _ rfl HO3.out (w3.heap.size + 1) (.slice (some ⟨w3.heap.size, 0, none⟩) 1 1) (strs [y]) rfl HSRC.out (strs_one _) c2 c3 hsz3 ?_); intro v4 w4 hown4 hg4; rw [HLEN.out] at hown4; obtain ⟨g, cap, rfl, hgc, hgm, hgb, _⟩ := own_shape hown4 (by omega))
          have HO5 := Lib.hid (show w4.ownsRow w.heap.size 9 1 (.slice (some ⟨g, 0, none⟩) (m + 1) cap) (m + 1) (strs (acc ++ [y])) by
            rw [← strs_append] at hown4
            exact hown4)
          have HB4 := Lib.hid (HBW.out.grown hg4 hsz3 (fun q hq => (HO3.out.lt q hq).1))
          unfold maxLen at hgm
          clear hown4 hg4 HBW HSRC HO3 HLA c2 c3 hsz3 HS hBw
          go_wp2_with fail
          obtain ⟨wo, hwo⟩ : ∃ wo : World, wo = w4 := ⟨_, rfl⟩
          go_loopw [5] (fun vk w5 => ∃ k : Nat, k ≤ m ∧ vk = .int .i64 k ∧ Hid (w5.ownsRow w.heap.size 9 1 (.slice (some ⟨g, 0, none⟩) (m + 1) cap) (m + 1) (strs (acc.take k ++ y :: acc.drop k))) ∧ Hid (∀ x ∈ acc.drop k, y < x) ∧ Hid (Below w.heap.size w w5)) (fun vk _ => (intOf vk).toNat)
          case atStart => exact ⟨m, by omega, by go_num, Lib.hid (by rw [← HM.out, ins_end, HM.out]; exact HO5.out), Lib.hid (by rw [← HM.out]; simp), HB4⟩
          case round =>
            obtain ⟨k, hk, rfl, HO, HGT, HB⟩ := hrel
            by_cases hk0 : k = 0
            · subst hk0
              have HFIN := Lib.hid (show ∀ q, Sorting w.heap.size l (i + 1) (acc.take 0 ++ y :: acc.drop 0) (.slice (some ⟨g, 0, none⟩) (m + 1) cap) w (wr.drewN q) from fun q => HLAY.out 0 _ _ (by rw [HM.out]; exact HO.out) HGT.out (.inl rfl) (below_drewN HB.out q))
              clear HO HGT HB HLAY
              go_wp2_with fail
              go_quiet (fail)
              go_wp2_with fail
              go_roundw
              case rel => exact ⟨i + 1, _, by omega, by go_num, Lib.hid (HFIN.out _)⟩
              case measure => simp [intOf]; omega
            · obtain ⟨j, rfl⟩ : ∃ j, k = j + 1 := ⟨k - 1, by omega⟩
              have hja : j < acc.length := by have := HM.out; omega
              have hxk : wr.cell? ⟨g, j + 1, none⟩ = some (.string t) := by
                rw [HO.out.cellAt (j + 1) (by omega), strs_append]
                have hA : (strs (acc.take (j + 1))).length = j + 1 := by rw [strs_length, List.length_take]; omega
                rw [List.getElem?_append_right (by omega), hA, Nat.sub_self]
                simp [strs, HT.out]
              obtain ⟨u, hu⟩ : ∃ u : ByteArray, (⟨acc[j].toArray⟩ : ByteArray) = u := ⟨_, rfl⟩
              have hxj : wr.cell? ⟨g, j, none⟩ = some (.string u) := by
                rw [HO.out.cellAt j (by omega), strs_append]
                have hA : (strs (acc.take (j + 1))).length = j + 1 := by rw [strs_length, List.length_take]; omega
                rw [List.getElem?_append_left (by omega)]
                simp [strs, hja, hu]
              have htl : ByteArray.toList t = y := by rw [← HT.out, text_list]
              have hul : ByteArray.toList u = acc[j] := by rw [← hu, text_list]
              have hf1 := HO.out.frozenAt (j + 1)
              have hf0 := HO.out.frozenAt j
              by_cases hlt2 : y < acc[j]
              · have hls : Op.bytesLess (ByteArray.toList t) (ByteArray.toList u) = true := by rw [htl, hul, bytesLess_eq]; simpa using hlt2
                have HO2 := Lib.hid (show ∀ q, (((wr.setCell ⟨g, j + 1, none⟩ (.string u)).setCell ⟨g, j, none⟩ (.string t)).drewN q).ownsRow w.heap.size 9 1 (.slice (some ⟨g, 0, none⟩) (m + 1) cap) (m + 1) (strs (acc.take j ++ y :: acc.drop j)) from fun q => by
                  have h1 := ((HO.out.stored (j + 1) (.string u)).1.stored j (.string t)).1
                  rw [← hu, ← HT.out, swap_step acc y j hja] at h1
                  rw [← hu, ← HT.out]
                  exact h1)
                have HG2 := Lib.hid (show ∀ x ∈ acc.drop j, y < x from fun x hx => by
                  rw [List.drop_eq_getElem_cons hja] at hx
                  rcases List.mem_cons.1 hx with rfl | hx
                  · exact hlt2
                  · exact HGT.out x hx)
                have HB2 := Lib.hid (show ∀ q, Below w.heap.size w (((wr.setCell ⟨g, j + 1, none⟩ (.string u)).setCell ⟨g, j, none⟩ (.string t)).drewN q) from fun q => below_drewN ((HB.out.setCell (p := ⟨g, j + 1, none⟩) hgb _).setCell (p := ⟨g, j, none⟩) hgb _) q)
                clear HO HGT HB HLAY hlt2 htl hul hu hja hk0
                go_wp2_with fail
                go_quiet (fail)
                go_wp2_with fail
                go_roundw
                case rel => exact ⟨j, by omega, by go_num, Lib.hid (HO2.out _), HG2, Lib.hid (HB2.out _)⟩
                case measure => simp [intOf]
              · have hls : Op.bytesLess (ByteArray.toList t) (ByteArray.toList u) = false := by rw [htl, hul, bytesLess_eq]; simpa using hlt2
                have HFIN := Lib.hid (show ∀ q, Sorting w.heap.size l (i + 1) (acc.take (j + 1) ++ y :: acc.drop (j + 1)) (.slice (some ⟨g, 0, none⟩) (m + 1) cap) w (wr.drewN q) from fun q => HLAY.out (j + 1) _ _ (by rw [HM.out]; exact HO.out) HGT.out (.inr ⟨hja, by omega, hlt2⟩) (below_drewN HB.out q))
                clear HO HGT HB HLAY hlt2 htl hul hu hja hk0
                go_wp2_with fail
                go_quiet (fail)
                go_wp2_with fail
                go_roundw
                case rel => exact ⟨i + 1, _, by omega, by go_num, Lib.hid (HFIN.out _)⟩
                case measure => simp [intOf]; omega
    · obtain rfl : i = n := by omega
      have HE := Lib.hid (show acc = sortV l from sorting_end (by have := HS.out; rwa [← HN.out] at this))
      go_wp2
      go_ret
      exact ⟨_, rfl, by rw [← HE.out]; exact SlV.of_own HS.out.own, HS.out.below⟩
end Go.Proofs.YtlpmndljjdljmaaDoor.By
