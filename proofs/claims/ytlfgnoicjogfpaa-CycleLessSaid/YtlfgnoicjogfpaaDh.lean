/-
  WALK: with a member less.
-/
import Derived.Test.YtlfgnoicjogfpaaDg
import Derived.Laws.AppendOwnNone
namespace Go.Proofs.Ytlfgnoicjogfpaa.By
open Go.RowKit
open Mem Gm Rf

set_option maxHeartbeats 1000000 in
theorem in_any (w : World) (A : Option Addr) (c n : Nat) (l : List Int) (x : Int) (hn : l.length = n) (h : IW w (.slice A n c) l) (hl : n ≤ 1000000) :
    Calls Try.prog 25 #[.slice A n c, .int .i64 x] w fun e w' => e = .returned (.bool (l.contains x)) ∧ w = w' := by
  have HC := Lib.hid (fun j (hj : j < n) => show ∃ ad, A = some ad ∧ w.cell? (ad.add j) = some (.int .i64 (el l j)) from by
    subst hn
    rcases (show SlV w w.heap.size (.slice A l.length c) (ints l) from h).inv with ⟨_, h4, _⟩ | ⟨ad, e, _, _, _, hr⟩
    · omega
    · exact ⟨ad, e, (hr j _ (ints_at hj)).2⟩)
  have HN := Lib.hid hn
  obtain ⟨bx, hbx⟩ : ∃ bx, l.contains x = bx := ⟨_, rfl⟩
  rw [hbx]
  have HBX := Lib.hid hbx
  clear hn h hbx
  go_enter Try.func25, Try.ntmps25
  go_wp2_with fail
  go_loopw [5] (fun i wr => ∃ k : Nat, k ≤ n ∧ i = .int .i64 k ∧ (l.take k).contains x = false ∧ w = wr) (fun i _ => n - (intOf i).toNat)
  case atStart => exact ⟨0, by omega, rfl, by simp, rfl⟩
  case round =>
    obtain ⟨k, hk, rfl, hno, rfl⟩ := hrel
    by_cases hlt : k < n
    · obtain ⟨ad, rfl, hc⟩ := HC.out k hlt
      have hkl : k < l.length := by rw [HN.out]; exact hlt
      have HLT := Lib.hid hlt
      obtain ⟨y, hy⟩ : ∃ y, el l k = y := ⟨_, rfl⟩
      rw [hy] at hc
      have hyl : l[k] = y := by rw [el_at hkl, hy]
      have hk0 : (0 : Int) ≤ (k : Int) := by omega
      have hkI : (k : Int) < (n : Int) := by omega
      by_cases hxy : y = x
      · have hin : l.contains x = true := by
          rw [List.contains_iff_mem, ← hxy, ← hyl]; exact List.getElem_mem hkl
        obtain rfl : bx = true := by rw [← HBX.out]; exact hin
        subst hxy
        clear hno hin hkl hyl hy
        go_wp2_with fail
        go_ret
        exact ⟨rfl, rfl⟩
      · have HNX := Lib.hid (show (l.take (k + 1)).contains x = false from by
          rw [List.take_succ_eq_append_getElem hkl, hyl]
          have h9 : ¬ x ∈ l.take k := fun h => by rw [List.contains_iff_mem.2 h] at hno; cases hno
          cases h8 : (l.take k ++ [y]).contains x with
          | false => rfl
          | true =>
            rcases List.mem_append.1 (List.contains_iff_mem.1 h8) with h7 | h7
            · exact absurd h7 h9
            · exact absurd (List.mem_singleton.1 h7).symm hxy)
        clear hno hkl hyl hy
        go_wp2_with fail
        go_roundw
        case rel => exact ⟨k + 1, by have := HLT.out; omega, by go_num, HNX.out, by first | rfl | trivial⟩
        case measure => have := HLT.out; simp [intOf]; omega
    · obtain rfl : k = n := by omega
      rw [List.take_of_length_le (by rw [HN.out]; exact Nat.le_refl _)] at hno
      obtain rfl : bx = false := by rw [← HBX.out]; exact hno
      clear hno
      go_wp2_with fail
      go_ret
      exact ⟨rfl, rfl⟩

/-- One of a list of yes and no is made no. -/
theorem less_made {w : World} {base M at_ : Nat} {v : Value} {ins : List Bool} (h : w.ownsRow base 4 1 v M (bls ins)) (hM : ins.length = M) (ha : at_ < M) :
    ∃ g cap, v = .slice (some ⟨g, 0, none⟩) M cap ∧ base ≤ g ∧ g < w.heap.size ∧ w.cell? ⟨g, at_, none⟩ = some (.bool (memV ins at_)) ∧ w.frozen? ⟨g, at_, none⟩ = false ∧ LW (w.setCell ⟨g, at_, none⟩ (.bool false)) (.slice (some ⟨g, 0, none⟩) M cap) (ins.set at_ false) := by
  rcases h.2 with ⟨_, hn⟩ | ⟨g, cap, cur, hv, hb, hg, hc, hm, hs, ht⟩
  · omega
  · rw [Nat.mul_one] at ht hs
    have hblk : Blk w g 4 cur := hg
    have hat : ∀ j, j < M → cur[j]? = some (.bool (memV ins j)) := fun j hj => by
      have h1 : (cur.toList.take M)[j]? = (bls ins)[j]? := by rw [ht]
      rw [List.getElem?_take, if_pos hj, Array.getElem?_toList] at h1
      rw [h1]
      unfold memV bls
      rw [List.getElem?_map, List.getElem?_eq_getElem (by omega)]; rfl
    refine ⟨g, cap, hv, hb, hblk.lt, by rw [hblk.cell, hat _ ha], hblk.frozen _, ?_⟩
    have hb2 := hblk.stored at_ (.bool false)
    have hlen : (bls (ins.set at_ false)).length = M := by simp [bls, hM]
    have : SlV (w.setCell ⟨g, at_, none⟩ (.bool false)) (w.setCell ⟨g, at_, none⟩ (.bool false)).heap.size (.slice (some ⟨g, 0, none⟩) (bls (ins.set at_ false)).length cap) (bls (ins.set at_ false)) :=
      .at_ _ _ _ (by rw [hlen]; exact hc) hm fun j u hu => ⟨hb2.lt, by
        rw [add_plain, Nat.zero_add, hb2.cell]
        have hj : j < M := by have := (List.getElem?_eq_some_iff.1 hu).1; rwa [hlen] at this
        have hjc : j < cur.size := by have := (Array.getElem?_eq_some_iff.1 (hat j hj)).1; exact this
        rw [Array.getElem?_setIfInBounds]
        have hu2 : (bls (ins.set at_ false))[j]? = some u := hu
        unfold bls at hu2
        rw [List.getElem?_map, List.getElem?_set] at hu2
        by_cases e : at_ = j
        · subst e
          rw [if_pos rfl, if_pos hjc]
          rw [if_pos rfl, if_pos (by omega)] at hu2
          exact hu2
        · rw [if_neg e]
          rw [if_neg e] at hu2
          rw [hat j hj]
          unfold memV
          rw [List.getElem?_eq_getElem (by omega)] at hu2 ⊢
          exact hu2⟩
    rwa [hlen] at this

theorem memV_set (ins : List Bool) (a p : Nat) (h : memV (ins.set a false) p = true) : memV ins p = true ∧ p ≠ a := by
  unfold memV at h ⊢
  rw [List.getElem?_set] at h
  by_cases e : a = p
  · subst e
    rw [if_pos rfl] at h
    split at h <;> cases h
  · rw [if_neg e] at h
    exact ⟨h, fun h2 => e h2.symm⟩
theorem EM_set {g : List (List Int)} {ins : List Bool} {x a b : Nat} (h : EM g (ins.set x false) a b) : EM g ins a b := by
  obtain ⟨h1, h2, h3⟩ := h
  refine ⟨h1, h2, ?_⟩
  unfold RM at h3 ⊢
  rw [Bool.and_eq_true, Bool.and_eq_true] at h3
  rw [h3.1, (memV_set _ _ _ h3.2.1).1, (memV_set _ _ _ h3.2.2).1]; rfl
theorem on_less {g : List (List Int)} {ins : List Bool} {N x p : Nat} (hN : g.length = N) (h : p ∈ ronL N (ins.set x false) (witG g (ins.set x false)) N) : p ∈ ronL N ins (witG g ins) N ∧ p ≠ x := by
  subst hN
  have h1 := ronL_mem.1 h
  exact ⟨ronL_mem.2 (Circ.mono (fun _ _ => EM_set) h1), (memV_set _ _ _ (circ_member h1).2).2⟩
theorem ord_less {g : List (List Int)} {ins : List Bool} {x : Nat} (h : (ordV g ins).isSome = true) : (ordV g (ins.set x false)).isSome = true := by
  cases h1 : ordV g (ins.set x false) with
  | some l => rfl
  | none =>
    obtain ⟨y, hy⟩ := (ordV_none g _).1 h1
    rw [(ordV_none g ins).2 ⟨y, Circ.mono (fun _ _ => EM_set) hy⟩] at h
    cases h

set_option maxHeartbeats 4000000 in
set_option maxRecDepth 100000 in
theorem cycleLess_any (w : World) (A A2 : Option Addr) (c c2 N M : Nat) (g : List (List Int)) (ins : List Bool) (x : Int) (hN : g.length = N) (hM : ins.length = M) (h : GW w (.slice A N c) g) (hI : LW w (.slice A2 M c2) ins) :
    Calls Try.prog 5 #[.slice A N c, .slice A2 M c2, .int .i64 x] w (TAns w) := by
  have HN := Lib.hid hN
  have HM := Lib.hid hM
  have HG := Lib.hid h
  have HI := Lib.hid hI
  clear hN hM h hI
  go_enter Try.func5, Try.ntmps5
  go_wp2_with fail
  refine (few_w _ _ _ _ g HN.out HG.out).mono ?_
  rintro e w' ⟨bl, rfl, hbl, rfl⟩
  cases bl with
  | false =>
    clear hbl
    go_wp2_with fail
    refine (known11_any _).mono ?_
    rintro e w1 ⟨rfl, b1⟩
    have HB1 := Lib.hid b1
    clear b1
    go_wp2_with fail
    go_ret
    exact ⟨rfl, HB1.out⟩
  | true =>
    have hs := hbl rfl
    clear hbl
    by_cases hm : 40 < M
    · have hd : decide ((40 : Int) < (M : Int)) = true := by simp; omega
      clear hm
      go_wp2_with fail
      refine (known11_any _).mono ?_
      rintro e w1 ⟨rfl, b1⟩
      have HB1 := Lib.hid b1
      clear b1
      go_wp2_with fail
      go_ret
      exact ⟨rfl, HB1.out⟩
    by_cases hx0 : x < 0
    · have hd : decide ((40 : Int) < (M : Int)) = false := by simp; omega
      have hd2 : decide (x < 0) = true := by simp; omega
      clear hm hx0
      go_wp2_with fail
      refine (known11_any _).mono ?_
      rintro e w1 ⟨rfl, b1⟩
      have HB1 := Lib.hid b1
      clear b1
      go_wp2_with fail
      go_ret
      exact ⟨rfl, HB1.out⟩
    by_cases hxM : (M : Int) ≤ x
    · have hd : decide ((40 : Int) < (M : Int)) = false := by simp; omega
      have hd2 : decide (x < 0) = false := by simp; omega
      have hd3 : decide ((M : Int) ≤ x) = true := by simp; omega
      clear hm hx0 hxM
      go_wp2_with fail
      refine (known11_any _).mono ?_
      rintro e w1 ⟨rfl, b1⟩
      have HB1 := Lib.hid b1
      clear b1
      go_wp2_with fail
      go_ret
      exact ⟨rfl, HB1.out⟩
    · have hd : decide ((40 : Int) < (M : Int)) = false := by simp; omega
      obtain ⟨a, rfl⟩ : ∃ a : Nat, x = (a : Int) := ⟨x.toNat, by omega⟩
      have haM : a < M := by omega
      have hd2 : ¬ (a : Int) < 0 := by omega
      have hd3 : ¬ (M : Int) ≤ (a : Int) := by omega
      have haI : (a : Int) < (M : Int) := by omega
      have ha0 : (0 : Int) ≤ (a : Int) := by omega
      have HN24 := Lib.hid (show N ≤ 24 from HN.out ▸ hs.1)
      obtain ⟨ins2, hins2⟩ : ∃ ins2, ins.set a false = ins2 := ⟨_, rfl⟩
      have hM2 : ins2.length = M := by rw [← hins2, List.length_set]; exact HM.out
      obtain ⟨L1, hL1⟩ : ∃ L1, (ronL N ins (witG g ins) N).length = L1 := ⟨_, rfl⟩
      obtain ⟨L2, hL2⟩ : ∃ L2, (ronL N ins2 (witG g ins2) N).length = L2 := ⟨_, rfl⟩
      obtain ⟨L3, hL3⟩ : ∃ L3, (oI (ordV g ins)).length = L3 := ⟨_, rfl⟩
      obtain ⟨L4, hL4⟩ : ∃ L4, (oI (ordV g ins2)).length = L4 := ⟨_, rfl⟩
      have HS1 := Lib.hid (show L1 ≤ 24 ∧ L2 ≤ 24 by rw [← hL1, ← hL2]; exact ⟨Nat.le_trans (ronL_len _ _ _ _) HN24.out, Nat.le_trans (ronL_len _ _ _ _) HN24.out⟩)
      have HC := Lib.hid (fun w A A2 c c2 h hI => on_w w A A2 c c2 N M L1 g ins HN.out HM.out hL1 h hI hs)
      have HD := Lib.hid (fun w A A2 c c2 h hI => on_w w A A2 c c2 N M L2 g ins2 HN.out hM2 hL2 h hI hs)
      have HO := Lib.hid (fun w A A2 c c2 h hI => order_w w A A2 c c2 N M L3 g ins HN.out HM.out hL3 h hI hs)
      have HP := Lib.hid (fun w A A2 c c2 h hI => order_w w A A2 c c2 N M L4 g ins2 HN.out hM2 hL4 h hI hs)
      have HON := Lib.hid (fun p (hp : p ∈ ronL N ins2 (witG g ins2) N) => show p ∈ ronL N ins (witG g ins) N ∧ p ≠ a from on_less HN.out (hins2 ▸ hp))
      have HOO := Lib.hid (fun (h : (ordV g ins).isSome = true) => show (ordV g ins2).isSome = true from hins2 ▸ ord_less h)
      have HL1 := Lib.hid hL1
      have HL2 := Lib.hid hL2
      generalize oI (ordV g ins) = l3 at HO
      generalize oI (ordV g ins2) = l4 at HP
      generalize (ordV g ins).isSome = x1 at HO HOO
      generalize (ordV g ins2).isSome = x2 at HP HOO
      generalize ronL N ins (witG g ins) N = l1 at HC HON HL1
      generalize ronL N ins2 (witG g ins2) N = l2 at HD HON HL2
      have HIN2 := Lib.hid hins2
      obtain ⟨ib, hib, hy0, hy1, hy2⟩ := info_parts infoB
      have hM40 : M ≤ 40 := by omega
      have HLI := Lib.hid (show (bls ins).length = M by simp [bls, HM.out])
      have HSI := Lib.hid (show SlV w w.heap.size (.slice A2 M c2) (bls ins) from HI.out)
      have HNIL := Lib.hid (show w.ownsRow w.heap.size 4 1 (.slice none 0 0) 0 [] from World.ownsRow_nil _ _ _ _)
      have H1C := Lib.hid (show ∀ y ∈ bls ins, y.oneCell' = true from fun y hy => by
        obtain ⟨z, _, rfl⟩ := List.mem_map.1 hy; rfl)
      clear hL1 hL2 hL3 hL4 hs hins2 hM2 hm hx0 hxM
      go_wp2_with (
        at_builtin
        refine wpList_append_slv _ rfl _ _ 23 rfl w.heap.size 4 ib (.bool false) 1 Try.underlying23 hib hy0 hy1 hy2 rfl (.slice none 0 0) [] rfl HNIL.out w.heap.size (.slice A2 M c2) (bls ins) rfl HSI.out H1C.out (by rw [HLI.out]; unfold maxLen; simp; omega) (by rw [HLI.out]; simp; omega) (Nat.le_refl _) ?_
        intro v' w' h2 h3
        rw [List.nil_append, HLI.out] at h2
        obtain ⟨gb, cap, rfl, hgb, hgl, hcx, hfx, hlw⟩ := less_made h2 HM.out haM
        have HLW := Lib.hid hlw
        have HB9 := Lib.hid (show Below w.heap.size w (w'.setCell ⟨gb, a, none⟩ (.bool false)) from ((Below.refl _ w).grown h3 (Nat.le_refl _) fun r e => by cases e).setCell (p := ⟨gb, a, none⟩) hgb _)
        clear hlw h2 h3 hgb hgl)
      have HG1 := Lib.hid (HG.out.on HB9.out)
      have HI1 := Lib.hid (HI.out.on HB9.out)
      have HK1 := Lib.hid HLW.out
      have HB0 := Lib.hid HB9.out
      rw [HIN2.out] at HK1
      clear HLW HB9 HG HI HNIL HSI H1C HLI
      refine (HC.out _ _ _ _ _ HG1.out HI1.out).mono ?_
      rintro e w1 ⟨X1, y1, rfl, h1, b1⟩
      have Ra1 := Lib.hid (h1)
      have Rg1 := Lib.hid (HG1.out.on b1)
      have Rm1 := Lib.hid (HI1.out.on b1)
      have Rk1 := Lib.hid (HK1.out.on b1)
      have HB1 := Lib.hid (to_ HB0.out b1)
      clear b1 h1 HG1 HI1 HK1 HB0
      go_wp2_with fail
      refine (HD.out _ _ _ _ _ Rg1.out Rk1.out).mono ?_
      rintro e w2 ⟨X2, y2, rfl, h2, b2⟩
      have Rb2 := Lib.hid (h2)
      have Ra2 := Lib.hid (Ra1.out.on b2)
      have Rg2 := Lib.hid (Rg1.out.on b2)
      have Rm2 := Lib.hid (Rm1.out.on b2)
      have Rk2 := Lib.hid (Rk1.out.on b2)
      have HB2 := Lib.hid (to_ HB1.out b2)
      clear b2 h2 Ra1 Rg1 Rm1 Rk1 HB1
      have HIA := Lib.hid (fun W (v : Int) (hb : Below w2.heap.size w2 W) => in_any W X1 y1 L1 (coI l1) v (by rw [coI, List.length_map]; exact HL1.out) (Ra2.out.on hb) (by have := HS1.out; omega))
      have HLV := Lib.hid (show ∀ (j s : Nat), l2[j]? = some s → ∃ ad, X2 = some ad ∧ (ad.add j).block < w2.heap.size ∧ w2.cell? (ad.add j) = some (.int .i64 (s : Int)) from fun j s hj => by
        rcases (show SlV w2 w2.heap.size (.slice X2 L2 y2) (ints (coI l2)) from Rb2.out).inv with ⟨_, h4, _⟩ | ⟨ad, e, _, _, _, hr⟩
        · have hj2 := (List.getElem?_eq_some_iff.1 hj).1
          have := HL2.out
          omega
        · have h4 := hr j (.int .i64 (s : Int)) (by rw [show ints (coI l2) = nats l2 from (nats_ints l2).symm]; show (l2.map _)[j]? = _; rw [List.getElem?_map, hj]; rfl)
          exact ⟨ad, e, by rw [add_block]; exact h4.1, h4.2⟩)
      clear Ra2 Rb2
      go_wp2_with fail
      go_loopw [10] (fun i wr => ∃ k : Nat, k ≤ L2 ∧ i = .int .i64 k ∧ Below w2.heap.size w2 wr) (fun i _ => L2 - (intOf i).toNat)
      case atStart => exact ⟨0, by omega, rfl, Below.refl _ _⟩
      case round =>
        obtain ⟨k, hk, rfl, hwl⟩ := hrel
        have hL24 := HS1.out.2
        by_cases hlt : k < L2
        · have HLT := Lib.hid hlt
          obtain ⟨p, hp⟩ : ∃ p, l2[k]? = some p := ⟨_, List.getElem?_eq_getElem (by rw [HL2.out]; exact hlt)⟩
          obtain ⟨ad, rfl, hab, hca0⟩ := HLV.out k p hp
          have hca : wr.cell? (ad.add k) = some (.int .i64 (p : Int)) := (hwl.cell hab).trans hca0
          obtain ⟨hp1, hp2⟩ := HON.out p (List.mem_of_getElem? hp)
          have hne : ((p : Int) == (a : Int)) = false := by rw [beq_eq_false_iff_ne]; omega
          have hne2 : ¬ (p : Int) = (a : Int) := by omega
          have HI9 := Lib.hid (HIA.out wr (p : Int) hwl)
          rw [show (coI l1).contains (p : Int) = true by rw [List.contains_iff_mem, coI]; exact List.mem_map.2 ⟨p, hp1, rfl⟩] at HI9
          have hkI : (k : Int) < (L2 : Int) := by omega
          have hk0 : (0 : Int) ≤ (k : Int) := by omega
          have HWL := Lib.hid hwl
          clear hwl hca0 hp1 hp2 hp hk hab
          go_wp2_with (go_at_call 25; refine HI9.out.mono ?_; rintro e w9 ⟨rfl, rfl⟩)
          go_roundw
          case rel => exact ⟨k + 1, by have := HLT.out; omega, by go_num, HWL.out⟩
          case measure => have := HLT.out; simp [intOf]; omega
        · obtain rfl : k = L2 := by omega
          have Rg9 := Lib.hid (Rg2.out.on hwl)
          have Rm9 := Lib.hid (Rm2.out.on hwl)
          have Rk9 := Lib.hid (Rk2.out.on hwl)
          have HB9 := Lib.hid (to_ HB2.out hwl)
          clear hwl hlt hk HLV
          go_wp2_with fail
          refine (HO.out _ _ _ _ _ Rg9.out Rm9.out).mono ?_
          rintro e w3 ⟨X3, y3, rfl, -, b3⟩
          have Rg3 := Lib.hid (Rg9.out.on b3)
          have Rm3 := Lib.hid (Rm9.out.on b3)
          have Rk3 := Lib.hid (Rk9.out.on b3)
          have HB3 := Lib.hid (to_ HB9.out b3)
          clear b3 Rg9 Rm9 Rk9 HB9
          go_wp2_with fail
          refine (HP.out _ _ _ _ _ Rg3.out Rk3.out).mono ?_
          rintro e w4 ⟨X4, y4, rfl, -, b4⟩
          have Rg4 := Lib.hid (Rg3.out.on b4)
          have Rm4 := Lib.hid (Rm3.out.on b4)
          have Rk4 := Lib.hid (Rk3.out.on b4)
          have HB4 := Lib.hid (to_ HB3.out b4)
          clear b4 Rg3 Rm3 Rk3 HB3
          cases x1 with
          | false =>
            go_wp2_with fail
            refine (known11_any _).mono ?_
            rintro e w6 ⟨rfl, b6⟩
            have HB6 := Lib.hid (to_ HB4.out b6)
            clear b6 HB4
            go_wp2_with fail
            go_ret
            exact ⟨rfl, HB6.out⟩
          | true =>
            obtain rfl : x2 = true := HOO.out rfl
            go_wp2_with fail
            refine (known11_any _).mono ?_
            rintro e w6 ⟨rfl, b6⟩
            have HB6 := Lib.hid (to_ HB4.out b6)
            clear b6 HB4
            go_wp2_with fail
            go_ret
            exact ⟨rfl, HB6.out⟩
end Go.Proofs.Ytlfgnoicjogfpaa.By
