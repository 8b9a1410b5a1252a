/-
  PROVED: octet.Put and octet.Text answer, for all bytes, numbers, widths and texts, what the document says, and what was handed in stays (P2.1). No condition.
-/
import Derived.Test.YtngjflcnfjbooaaRows
import Derived.WalkKit
import Derived.ProofKit
import Derived.OpenShut
import Derived.Lib.Hide
import Derived.Deep.RegionHeld3
import Derived.Test.YtngjflcnfjbooaaOp
import Derived.ShutString
import Derived.ChangeOld
import Derived.Below
namespace Go.Proofs.Ytngjflcnfjbooaa.octetPuts
open Go.ChangeShapes Go.WideShapes Go.ChangeAt Go.RowKit
open Go.ChangeMaps (open_string shut_string)
set_option linter.unusedVariables false

theorem own : ownKnob Try.prog.godebug = none := by kernel_rfl
theorem laidOut : laidOutB Try.prog = true := by kernel_rfl

/-- WHAT THE WALK IS TOLD OF A SLICE OF INTEGERS THAT CAME IN: it is nil; or it leads to a row of 'cap' cells, the numbers 'zs' (the first 'len' are its elements, the rest its spare room), each fitting its kind. -/
def IsRow (k : IntKind) (w : World) (a : Option Addr) (len cap : Nat) (zs : List Int) : Prop :=
  (a = none ∧ len = 0 ∧ cap = 0 ∧ zs = []) ∨
  ∃ x, a = some x ∧ len ≤ cap ∧ cap ≤ maxLen ∧ zs.length = cap ∧ (∀ i, i < zs.length → w.cell? (x.add i) = some (.int k (zs.getD i 0))) ∧ ∀ n ∈ zs, (Lit.int k n).wf = true

/-! ### STEP 1: THE WALK: the Go text returns true, AND WRITES NOTHING THAT WAS THERE: 'Below w.heap.size w w'' (Derived/Below.lean: '.refl', '.alloc', '.drew', '.setCell' at a new block, '.trans'). Open each 'IsRow' by 'rcases' AHEAD of 'go_enter'; part every test ahead of the walk. -/
set_option linter.unusedSimpArgs false in
set_option maxHeartbeats 4000000 in
theorem walk (a0 : Option Addr) (len0 cap0 : Nat) (z0 : List Int) (a1 : Int) (a2 : Int) (a3 : ByteArray) (w : World) (w0 : IsRow .u8 w a0 len0 cap0 z0) (w1 : (Lit.int .i64 a1).wf = true) (w2 : (Lit.int .i64 a2).wf = true) (w3 : a3.size ≤ maxLen) :
    Calls Try.prog 7 #[.slice a0 len0 cap0, .int .i64 a1, .int .i64 a2, .string a3] w fun e w' => e = .returned (.bool true) ∧ Below w.heap.size w w' := by
  obtain ⟨l, hll, hsl⟩ := By.slv_of_row w0
  by_cases hbig : 300 < len0 ∨ 600 < a3.size
  · have hk := By.known_any
    have HK := Lib.hid hk
    clear hk w0 hsl hll w1 w2 w3
    have hd : decide (300 < (len0 : Int)) = true ∨ (decide (300 < (len0 : Int)) = false ∧ decide (600 < (a3.size : Int)) = true) := by
      rcases hbig with h | h
      · exact .inl (by simp; omega)
      · by_cases h2 : 300 < len0
        · exact .inl (by simp; omega)
        · exact .inr ⟨by simp; omega, by simp; omega⟩
    rcases hd with hd | ⟨hd, hd2⟩
    all_goals
      go_enter Try.func7, Try.ntmps7
      go_wp2_with fail
      refine (HK.out _).mono ?_
      rintro e w1 ⟨rfl, hb⟩
      go_wp2_with fail
      go_ret
      exact ⟨rfl, hb⟩
  · have hd1 : decide (300 < (len0 : Int)) = false := by simp; omega
    have hd2 : decide (600 < (a3.size : Int)) = false := by simp; omega
    have hln : len0 ≤ 300 := by omega
    have hc0 := By.text_of hsl
    have HS := Lib.hid hsl
    have HL := Lib.hid hll
    have hl3 : l.length ≤ 300 := by omega
    have HC0 := Lib.hid hc0
    obtain ⟨F, hF⟩ : ∃ F : Int → ByteArray, ∀ n, (⟨(l ++ By.putB n a2).toArray⟩ : ByteArray) = F n := ⟨_, fun _ => rfl⟩
    obtain ⟨G, hG⟩ : ∃ G : ByteArray, (⟨(l ++ By.textB a3).toArray⟩ : ByteArray) = G := ⟨_, rfl⟩
    obtain ⟨Z, hZ⟩ : ∃ Z : ByteArray, (⟨l.toArray⟩ : ByteArray) = Z := ⟨_, rfl⟩
    rw [hZ] at hc0
    have HF := Lib.hid hF
    have HG := Lib.hid hG
    have HZ := Lib.hid hZ
    obtain ⟨b1, hb1⟩ : ∃ b1, wrap64 (a1 + 1) = b1 := ⟨_, rfl⟩
    have HW3 := Lib.hid w3
    have HP1 := Lib.hid (By.put_any _ (By.u8s l) a1 a2 w hsl (By.u8s_one l) (by rw [By.u8s_length]; omega))
    have hbi : IntKind.i64.wrap (a1 + 1) = b1 := by rw [← hb1, IntKind.wrap_i64]; unfold wrap64; rfl
    clear w0 hll hsl w1 w2 w3 hbig hF hG hZ HC0
    go_enter Try.func7, Try.ntmps7
    go_wp2_with fail
    refine HP1.out.mono ?_
    rintro e u1 ⟨v1, rfl, hown1, hb1⟩
    rw [← By.u8s_append] at hown1
    have HV1 := Lib.hid (Mem.SlV.of_own hown1)
    have HB1 := Lib.hid hb1
    clear hown1 hb1 HP1
    have HP2 := Lib.hid (By.put_any _ (By.u8s l) b1 a2 u1 ((HS.out.below HB1.out).more HB1.out.size) (By.u8s_one l) (by rw [By.u8s_length]; omega))
    go_wp2_with fail
    refine HP2.out.mono ?_
    rintro e u2 ⟨v2, rfl, hown2, hb2⟩
    rw [← By.u8s_append] at hown2
    have HV2 := Lib.hid (Mem.SlV.of_own hown2)
    have HB12 := Lib.hid hb2
    have HB2 := Lib.hid (HB1.out.trans (hb2.mono HB1.out.size))
    clear hown2 hb2 HP2
    have HP3 := Lib.hid (By.text_any _ (By.u8s l) a3 u2 ((HS.out.below HB2.out).more HB2.out.size) (By.u8s_one l) (by rw [By.u8s_length]; omega) HW3.out)
    go_wp2_with fail
    refine HP3.out.mono ?_
    rintro e u3 ⟨v3, rfl, hown3, hb3⟩
    rw [← By.u8s_append] at hown3
    have HV3 := Lib.hid (Mem.SlV.of_own hown3)
    have HB3 := Lib.hid (HB2.out.trans (hb3.mono HB2.out.size))
    have HS3 := Lib.hid ((HS.out.below HB3.out).more HB3.out.size)
    have HV13 := Lib.hid (((HV1.out.below HB12.out).more HB12.out.size).below hb3)
    have HV23 := Lib.hid (HV2.out.below hb3)
    have hsz12 := HB12.out.size
    have hsz23 := hb3.size
    have MK := Lib.hid (show ∀ w', Below u3.heap.size u3 w' → ((convert 32 9 v1).run Try.prog w' = .ok (.string (F a1)) w' ∧ (convert 32 9 v2).run Try.prog w' = .ok (.string (F b1)) w' ∧ (convert 32 9 v3).run Try.prog w' = .ok (.string G) w' ∧ (convert 32 9 (.slice a0 len0 cap0)).run Try.prog w' = .ok (.string Z) w' ∧ Below u3.heap.size u3 w') from fun w' hb =>
      ⟨by rw [← HF.out a1]; exact By.text_of ((HV13.out.more hsz23).below hb), by rw [← HF.out b1]; exact By.text_of ((HV23.out.more hsz23).below hb), by rw [← HG.out]; exact By.text_of (HV3.out.below hb), by rw [← HZ.out]; exact By.text_of (HS3.out.below hb), hb⟩)
    have C23 := Lib.hid (show ∀ n w', Below u3.heap.size u3 w' → Calls Try.prog 23 #[.slice a0 len0 cap0, .int .i64 n, .int .i64 a2] w' fun e w'' => ∃ v, e = .returned v ∧ (convert 32 9 v).run Try.prog w'' = .ok (.string (F n)) w'' ∧ ((convert 32 9 v1).run Try.prog w'' = .ok (.string (F a1)) w'' ∧ (convert 32 9 v2).run Try.prog w'' = .ok (.string (F b1)) w'' ∧ (convert 32 9 v3).run Try.prog w'' = .ok (.string G) w'' ∧ (convert 32 9 (.slice a0 len0 cap0)).run Try.prog w'' = .ok (.string Z) w'' ∧ Below u3.heap.size u3 w'') from fun n w' hb => by
      rw [← HF.out n]
      refine (By.rput_says u3 w' _ l n a2 HS3.out (by omega) hb).mono ?_
      rintro e w'' ⟨v, he, hv, hb2⟩
      exact ⟨v, he, hv, MK.out w'' hb2⟩)
    have C24 := Lib.hid (show ∀ w', Below u3.heap.size u3 w' → Calls Try.prog 24 #[.slice a0 len0 cap0, .string a3] w' fun e w'' => ∃ v, e = .returned v ∧ (convert 32 9 v).run Try.prog w'' = .ok (.string G) w'' ∧ ((convert 32 9 v1).run Try.prog w'' = .ok (.string (F a1)) w'' ∧ (convert 32 9 v2).run Try.prog w'' = .ok (.string (F b1)) w'' ∧ (convert 32 9 v3).run Try.prog w'' = .ok (.string G) w'' ∧ (convert 32 9 (.slice a0 len0 cap0)).run Try.prog w'' = .ok (.string Z) w'' ∧ Below u3.heap.size u3 w'') from fun w' hb => by
      rw [← HG.out]
      refine (By.rtext_says u3 w' _ l a3 HW3.out HS3.out (by omega) hb).mono ?_
      rintro e w'' ⟨v, he, hv, hb2⟩
      exact ⟨v, he, hv, by rw [HG.out]; exact MK.out w'' hb2⟩)
    have K20 := Lib.hid (By.known_says u3)
    clear hown3 hb3 HP3 HV1 HV2 HV3 HV13 HV23 HB1 HB12 HB2 HF HG HZ HS HS3 hsz12 hsz23
    go_wp2_with fail
    refine wp_region_noPanic ?_
    refine wp_region_held_drew (S := fun w' => (convert 32 9 v1).run Try.prog w' = .ok (.string (F a1)) w' ∧ (convert 32 9 v2).run Try.prog w' = .ok (.string (F b1)) w' ∧ (convert 32 9 v3).run Try.prog w' = .ok (.string G) w' ∧ (convert 32 9 (.slice a0 len0 cap0)).run Try.prog w' = .ok (.string Z) w' ∧ Below u3.heap.size u3 w') (by kernel_rfl) (MK.out _ (Below.refl _ _).drew) (fun hHeld => ?_)
    refine wpAnyH_take (i := 0) rfl (by kernel_rfl) (by kernel_rfl) (by kernel_rfl) (fun _ _ _ h => h) (Or.inl ⟨by rfl, by intro W hSW; (try dsimp only at hSW); go_simp; try (with_reducible rfl)⟩) hHeld ?_
    try simp only [Act.put, List.getElem_toArray, List.getElem_cons_zero, List.getElem_cons_succ, List.setIfInBounds_toArray, List.set_cons_zero, List.set_cons_succ]
    refine wpAnyH_take (i := 1) rfl (by kernel_rfl) (by kernel_rfl) (by kernel_rfl) (fun _ _ _ h => h) (Or.inl ⟨by rfl, by intro W hSW; (try dsimp only at hSW); go_simp; try (with_reducible rfl)⟩) hHeld ?_
    try simp only [Act.put, List.getElem_toArray, List.getElem_cons_zero, List.getElem_cons_succ, List.setIfInBounds_toArray, List.set_cons_zero, List.set_cons_succ]
    refine wpAnyH_take (i := 2) rfl (by kernel_rfl) (by kernel_rfl) (by kernel_rfl) (fun _ _ _ h => h) (Or.inl ⟨by rfl, by intro W hSW; (try dsimp only at hSW); go_simp; try (with_reducible rfl)⟩) hHeld ?_
    try simp only [Act.put, List.getElem_toArray, List.getElem_cons_zero, List.getElem_cons_succ, List.setIfInBounds_toArray, List.set_cons_zero, List.set_cons_succ]
    refine wpAnyH_take (i := 3) rfl (by kernel_rfl) (by kernel_rfl) (by kernel_rfl) (fun _ _ _ h => h) (Or.inl ⟨by rfl, by intro W hSW; (try dsimp only at hSW); go_simp; try (with_reducible rfl)⟩) hHeld ?_
    try simp only [Act.put, List.getElem_toArray, List.getElem_cons_zero, List.getElem_cons_succ, List.setIfInBounds_toArray, List.set_cons_zero, List.set_cons_succ]
    refine wpAnyH_take (i := 4) rfl (by kernel_rfl) (by kernel_rfl) (by kernel_rfl) (fun _ _ _ h => h) (Or.inl ⟨by rfl, by intro W hSW; (try dsimp only at hSW); go_simp; try (with_reducible rfl)⟩) hHeld ?_
    try simp only [Act.put, List.getElem_toArray, List.getElem_cons_zero, List.getElem_cons_succ, List.setIfInBounds_toArray, List.set_cons_zero, List.set_cons_succ]
    refine wpAnyH_ready (rs := [5]) (by kernel_rfl) (by simp) ?_
    refine AllReadyH.cons rfl (fun K hK => ?_) AllReadyH.nil
    go_simp
    refine (C23.out _ _ hHeld.2.2.2.2).mono ?_; rintro e w4 ⟨v4, rfl, hc4, qb'⟩; have qb := qb'.2.2.2.2; clear qb'
    try go_wp2_with fail
    refine hK.out _ _ (MK.out _ qb) ?_
    clear hK K hHeld
    intro hHeld
    clear qb
    try simp only [Act.put, List.getElem_toArray, List.getElem_cons_zero, List.getElem_cons_succ, List.setIfInBounds_toArray, List.set_cons_zero, List.set_cons_succ]
    refine wpAnyH_ready (rs := [6]) (by kernel_rfl) (by simp) ?_
    refine AllReadyH.cons rfl (fun K hK => ?_) AllReadyH.nil
    go_simp
    refine hK.out _ _ (hHeld) ?_
    clear hK K hHeld
    intro hHeld
    clear hc4
    try simp only [Act.put, List.getElem_toArray, List.getElem_cons_zero, List.getElem_cons_succ, List.setIfInBounds_toArray, List.set_cons_zero, List.set_cons_succ]
    refine wpAnyH_take (i := 7) rfl (by kernel_rfl) (by kernel_rfl) (by kernel_rfl) (fun _ _ _ h => h) (Or.inl ⟨by rfl, by intro W hSW; (try dsimp only at hSW); go_simp; try (with_reducible rfl)⟩) hHeld ?_
    try simp only [Act.put, List.getElem_toArray, List.getElem_cons_zero, List.getElem_cons_succ, List.setIfInBounds_toArray, List.set_cons_zero, List.set_cons_succ]
    refine wpAnyH_take (i := 8) rfl (by kernel_rfl) (by kernel_rfl) (by kernel_rfl) (fun _ _ _ h => h) (Or.inl ⟨by rfl, by intro W hSW; (try dsimp only at hSW); go_simp; try (with_reducible rfl)⟩) hHeld ?_
    try simp only [Act.put, List.getElem_toArray, List.getElem_cons_zero, List.getElem_cons_succ, List.setIfInBounds_toArray, List.set_cons_zero, List.set_cons_succ]
    refine wpAnyH_take (i := 9) rfl (by kernel_rfl) (by kernel_rfl) (by kernel_rfl) (fun _ _ _ h => h) (Or.inl ⟨by rfl, by intro W hSW; (try dsimp only at hSW); go_simp; try (with_reducible rfl)⟩) hHeld ?_
    try simp only [Act.put, List.getElem_toArray, List.getElem_cons_zero, List.getElem_cons_succ, List.setIfInBounds_toArray, List.set_cons_zero, List.set_cons_succ]
    refine wpAnyH_take (i := 10) rfl (by kernel_rfl) (by kernel_rfl) (by kernel_rfl) (fun _ _ _ h => h) (Or.inl ⟨by rfl, by intro W hSW; (try dsimp only at hSW); go_simp; try (with_reducible rfl)⟩) hHeld ?_
    try simp only [Act.put, List.getElem_toArray, List.getElem_cons_zero, List.getElem_cons_succ, List.setIfInBounds_toArray, List.set_cons_zero, List.set_cons_succ]
    refine wpAnyH_take (i := 11) rfl (by kernel_rfl) (by kernel_rfl) (by kernel_rfl) (fun _ _ _ h => h) (Or.inl ⟨by rfl, by intro W hSW; (try dsimp only at hSW); go_simp; try (with_reducible rfl)⟩) hHeld ?_
    try simp only [Act.put, List.getElem_toArray, List.getElem_cons_zero, List.getElem_cons_succ, List.setIfInBounds_toArray, List.set_cons_zero, List.set_cons_succ]
    refine wpAnyH_take (i := 12) rfl (by kernel_rfl) (by kernel_rfl) (by kernel_rfl) (fun _ _ _ h => h) (Or.inl ⟨by rfl, by intro W hSW; (try dsimp only at hSW); go_simp; try (with_reducible rfl)⟩) hHeld ?_
    try simp only [Act.put, List.getElem_toArray, List.getElem_cons_zero, List.getElem_cons_succ, List.setIfInBounds_toArray, List.set_cons_zero, List.set_cons_succ]
    refine wpAnyH_take (i := 13) rfl (by kernel_rfl) (by kernel_rfl) (by kernel_rfl) (fun _ _ _ h => h) (Or.inl ⟨by rfl, by intro W hSW; (try dsimp only at hSW); go_simp; try (with_reducible rfl)⟩) hHeld ?_
    try simp only [Act.put, List.getElem_toArray, List.getElem_cons_zero, List.getElem_cons_succ, List.setIfInBounds_toArray, List.set_cons_zero, List.set_cons_succ]
    refine wpAnyH_take (i := 14) rfl (by kernel_rfl) (by kernel_rfl) (by kernel_rfl) (fun _ _ _ h => h) (Or.inl ⟨by rfl, by intro W hSW; (try dsimp only at hSW); go_simp; try (with_reducible rfl)⟩) hHeld ?_
    try simp only [Act.put, List.getElem_toArray, List.getElem_cons_zero, List.getElem_cons_succ, List.setIfInBounds_toArray, List.set_cons_zero, List.set_cons_succ]
    refine wpAnyH_ready (rs := [15]) (by kernel_rfl) (by simp) ?_
    refine AllReadyH.cons rfl (fun K hK => ?_) AllReadyH.nil
    go_simp
    refine (C23.out _ _ hHeld.2.2.2.2).mono ?_; rintro e w5 ⟨v5, rfl, hc5, qb'⟩; have qb := qb'.2.2.2.2; clear qb'
    try go_wp2_with fail
    refine hK.out _ _ (MK.out _ qb) ?_
    clear hK K hHeld
    intro hHeld
    clear qb
    try simp only [Act.put, List.getElem_toArray, List.getElem_cons_zero, List.getElem_cons_succ, List.setIfInBounds_toArray, List.set_cons_zero, List.set_cons_succ]
    refine wpAnyH_ready (rs := [16]) (by kernel_rfl) (by simp) ?_
    refine AllReadyH.cons rfl (fun K hK => ?_) AllReadyH.nil
    go_simp
    refine hK.out _ _ (hHeld) ?_
    clear hK K hHeld
    intro hHeld
    clear hc5
    try simp only [Act.put, List.getElem_toArray, List.getElem_cons_zero, List.getElem_cons_succ, List.setIfInBounds_toArray, List.set_cons_zero, List.set_cons_succ]
    refine wpAnyH_take (i := 17) rfl (by kernel_rfl) (by kernel_rfl) (by kernel_rfl) (fun _ _ _ h => h) (Or.inl ⟨by rfl, by intro W hSW; (try dsimp only at hSW); go_simp; try (with_reducible rfl)⟩) hHeld ?_
    try simp only [Act.put, List.getElem_toArray, List.getElem_cons_zero, List.getElem_cons_succ, List.setIfInBounds_toArray, List.set_cons_zero, List.set_cons_succ]
    refine wpAnyH_take (i := 18) rfl (by kernel_rfl) (by kernel_rfl) (by kernel_rfl) (fun _ _ _ h => h) (Or.inl ⟨by rfl, by intro W hSW; (try dsimp only at hSW); go_simp; try (with_reducible rfl)⟩) hHeld ?_
    try simp only [Act.put, List.getElem_toArray, List.getElem_cons_zero, List.getElem_cons_succ, List.setIfInBounds_toArray, List.set_cons_zero, List.set_cons_succ]
    refine wpAnyH_take (i := 19) rfl (by kernel_rfl) (by kernel_rfl) (by kernel_rfl) (fun _ _ _ h => h) (Or.inl ⟨by rfl, by intro W hSW; (try dsimp only at hSW); go_simp; try (with_reducible rfl)⟩) hHeld ?_
    try simp only [Act.put, List.getElem_toArray, List.getElem_cons_zero, List.getElem_cons_succ, List.setIfInBounds_toArray, List.set_cons_zero, List.set_cons_succ]
    refine wpAnyH_take (i := 20) rfl (by kernel_rfl) (by kernel_rfl) (by kernel_rfl) (fun _ _ _ h => h) (Or.inl ⟨by rfl, by intro W hSW; (try dsimp only at hSW); go_simp; try (with_reducible rfl)⟩) hHeld ?_
    try simp only [Act.put, List.getElem_toArray, List.getElem_cons_zero, List.getElem_cons_succ, List.setIfInBounds_toArray, List.set_cons_zero, List.set_cons_succ]
    refine wpAnyH_take (i := 21) rfl (by kernel_rfl) (by kernel_rfl) (by kernel_rfl) (fun _ _ _ h => h) (Or.inl ⟨by rfl, by intro W hSW; (try dsimp only at hSW); go_simp; try (with_reducible rfl)⟩) hHeld ?_
    try simp only [Act.put, List.getElem_toArray, List.getElem_cons_zero, List.getElem_cons_succ, List.setIfInBounds_toArray, List.set_cons_zero, List.set_cons_succ]
    refine wpAnyH_take (i := 22) rfl (by kernel_rfl) (by kernel_rfl) (by kernel_rfl) (fun _ _ _ h => h) (Or.inl ⟨by rfl, by intro W hSW; (try dsimp only at hSW); go_simp; try (with_reducible rfl)⟩) hHeld ?_
    try simp only [Act.put, List.getElem_toArray, List.getElem_cons_zero, List.getElem_cons_succ, List.setIfInBounds_toArray, List.set_cons_zero, List.set_cons_succ]
    refine wpAnyH_take (i := 23) rfl (by kernel_rfl) (by kernel_rfl) (by kernel_rfl) (fun _ _ _ h => h) (Or.inl ⟨by rfl, by intro W hSW; (try dsimp only at hSW); go_simp; try (with_reducible rfl)⟩) hHeld ?_
    try simp only [Act.put, List.getElem_toArray, List.getElem_cons_zero, List.getElem_cons_succ, List.setIfInBounds_toArray, List.set_cons_zero, List.set_cons_succ]
    refine wpAnyH_ready (rs := [24]) (by kernel_rfl) (by simp) ?_
    refine AllReadyH.cons rfl (fun K hK => ?_) AllReadyH.nil
    go_simp
    refine (C24.out _ hHeld.2.2.2.2).mono ?_; rintro e w6 ⟨v6, rfl, hc6, qb'⟩; have qb := qb'.2.2.2.2; clear qb'
    try go_wp2_with fail
    refine hK.out _ _ (MK.out _ qb) ?_
    clear hK K hHeld
    intro hHeld
    clear qb
    try simp only [Act.put, List.getElem_toArray, List.getElem_cons_zero, List.getElem_cons_succ, List.setIfInBounds_toArray, List.set_cons_zero, List.set_cons_succ]
    refine wpAnyH_ready (rs := [25]) (by kernel_rfl) (by simp) ?_
    refine AllReadyH.cons rfl (fun K hK => ?_) AllReadyH.nil
    go_simp
    refine hK.out _ _ (hHeld) ?_
    clear hK K hHeld
    intro hHeld
    clear hc6
    try simp only [Act.put, List.getElem_toArray, List.getElem_cons_zero, List.getElem_cons_succ, List.setIfInBounds_toArray, List.set_cons_zero, List.set_cons_succ]
    refine wpAnyH_take (i := 26) rfl (by kernel_rfl) (by kernel_rfl) (by kernel_rfl) (fun _ _ _ h => h) (Or.inl ⟨by rfl, by intro W hSW; (try dsimp only at hSW); go_simp; try (with_reducible rfl)⟩) hHeld ?_
    try simp only [Act.put, List.getElem_toArray, List.getElem_cons_zero, List.getElem_cons_succ, List.setIfInBounds_toArray, List.set_cons_zero, List.set_cons_succ]
    refine wpAnyH_take (i := 27) rfl (by kernel_rfl) (by kernel_rfl) (by kernel_rfl) (fun _ _ _ h => h) (Or.inl ⟨by rfl, by intro W hSW; (try dsimp only at hSW); go_simp; try (with_reducible rfl)⟩) hHeld ?_
    try simp only [Act.put, List.getElem_toArray, List.getElem_cons_zero, List.getElem_cons_succ, List.setIfInBounds_toArray, List.set_cons_zero, List.set_cons_succ]
    refine wpAnyH_take (i := 28) rfl (by kernel_rfl) (by kernel_rfl) (by kernel_rfl) (fun _ _ _ h => h) (Or.inl ⟨by rfl, by intro W hSW; (try dsimp only at hSW); go_simp; try (with_reducible rfl)⟩) hHeld ?_
    try simp only [Act.put, List.getElem_toArray, List.getElem_cons_zero, List.getElem_cons_succ, List.setIfInBounds_toArray, List.set_cons_zero, List.set_cons_succ]
    refine wpAnyH_take (i := 29) rfl (by kernel_rfl) (by kernel_rfl) (by kernel_rfl) (fun _ _ _ h => h) (Or.inl ⟨by rfl, by intro W hSW; (try dsimp only at hSW); go_simp; try (with_reducible rfl)⟩) hHeld ?_
    try simp only [Act.put, List.getElem_toArray, List.getElem_cons_zero, List.getElem_cons_succ, List.setIfInBounds_toArray, List.set_cons_zero, List.set_cons_succ]
    refine wpAnyH_take (i := 30) rfl (by kernel_rfl) (by kernel_rfl) (by kernel_rfl) (fun _ _ _ h => h) (Or.inl ⟨by rfl, by intro W hSW; (try dsimp only at hSW); go_simp; try (with_reducible rfl)⟩) hHeld ?_
    try simp only [Act.put, List.getElem_toArray, List.getElem_cons_zero, List.getElem_cons_succ, List.setIfInBounds_toArray, List.set_cons_zero, List.set_cons_succ]
    refine wpAnyH_take (i := 31) rfl (by kernel_rfl) (by kernel_rfl) (by kernel_rfl) (fun _ _ _ h => h) (Or.inl ⟨by rfl, by intro W hSW; (try dsimp only at hSW); go_simp; try (with_reducible rfl)⟩) hHeld ?_
    try simp only [Act.put, List.getElem_toArray, List.getElem_cons_zero, List.getElem_cons_succ, List.setIfInBounds_toArray, List.set_cons_zero, List.set_cons_succ]
    refine wpAnyH_take (i := 32) rfl (by kernel_rfl) (by kernel_rfl) (by kernel_rfl) (fun _ _ _ h => h) (Or.inl ⟨by rfl, by intro W hSW; (try dsimp only at hSW); go_simp; try (with_reducible rfl)⟩) hHeld ?_
    try simp only [Act.put, List.getElem_toArray, List.getElem_cons_zero, List.getElem_cons_succ, List.setIfInBounds_toArray, List.set_cons_zero, List.set_cons_succ]
    refine wpAnyH_take (i := 33) rfl (by kernel_rfl) (by kernel_rfl) (by kernel_rfl) (fun _ _ _ h => h) (Or.inl ⟨by rfl, by intro W hSW; (try dsimp only at hSW); go_simp; try (with_reducible rfl)⟩) hHeld ?_
    try simp only [Act.put, List.getElem_toArray, List.getElem_cons_zero, List.getElem_cons_succ, List.setIfInBounds_toArray, List.set_cons_zero, List.set_cons_succ]
    refine wpAnyH_take (i := 34) rfl (by kernel_rfl) (by kernel_rfl) (by kernel_rfl) (fun _ _ _ h => h) (Or.inl ⟨by rfl, by intro W hSW; (try dsimp only at hSW); go_simp; try (with_reducible rfl)⟩) hHeld ?_
    try simp only [Act.put, List.getElem_toArray, List.getElem_cons_zero, List.getElem_cons_succ, List.setIfInBounds_toArray, List.set_cons_zero, List.set_cons_succ]
    refine wpAnyH_ready (rs := [35]) (by kernel_rfl) (by simp) ?_
    refine AllReadyH.cons rfl (fun K hK => ?_) AllReadyH.nil
    go_simp
    refine (By.known_says u3 _ hHeld.2.2.2.2).mono ?_; rintro e w7 ⟨rfl, qb⟩
    try go_wp2_with fail
    refine hK.out _ _ (MK.out _ qb) ?_
    clear hK K hHeld
    intro hHeld
    clear qb
    try simp only [Act.put, List.getElem_toArray, List.getElem_cons_zero, List.getElem_cons_succ, List.setIfInBounds_toArray, List.set_cons_zero, List.set_cons_succ]
    refine wpAnyH_take (i := 36) rfl (by kernel_rfl) (by kernel_rfl) (by kernel_rfl) (fun _ _ _ h => h) (Or.inl ⟨by rfl, by intro W hSW; (try dsimp only at hSW); go_simp; try (with_reducible rfl)⟩) hHeld ?_
    try simp only [Act.put, List.getElem_toArray, List.getElem_cons_zero, List.getElem_cons_succ, List.setIfInBounds_toArray, List.set_cons_zero, List.set_cons_succ]
    refine wpAnyH_take (i := 37) rfl (by kernel_rfl) (by kernel_rfl) (by kernel_rfl) (fun _ _ _ h => h) (Or.inl ⟨by rfl, by intro W hSW; (try dsimp only at hSW); go_simp; try (with_reducible rfl)⟩) hHeld ?_
    try simp only [Act.put, List.getElem_toArray, List.getElem_cons_zero, List.getElem_cons_succ, List.setIfInBounds_toArray, List.set_cons_zero, List.set_cons_succ]
    refine wpAnyH_done (by kernel_rfl) ?_ _
    refine NoPanic.normal ?_
    go_wp2
    go_ret
    exact ⟨rfl, HB3.out.trans (hHeld.2.2.2.2.mono HB3.out.size)⟩

/-! ### THE ROW's STEP: WRITTEN OUT: LEAVE IT -/
set_option maxRecDepth 100000 in
theorem lifted (os : Os) (started : os.Started) (H : Type) (enc : TypeId × Value → H) :
    ReturnsInHanded {} Try.checked os 7 .any (Rows.octetPutsSpec.pre6 enc Try.prog Try.f7 Rows.octetPutsRow.domain false) (Rows.octetPutsSpec.post enc Try.prog Try.f7 false true false false) := by
  refine returnsInHanded_of_change (C := Try.checked) own started (by kernel_rfl) Try.func7
    (ChangeSpec.witness6 (enc := enc) (C := Try.checked) false ⟨#[], #[.slice none 0 0, .int .i64 0, .int .i64 0, .string ByteArray.empty], []⟩ 8 (by kernel_rfl) (by kernel_rfl) (by kernel_rfl) (by kernel_rfl)) ?_
  intro W base args ds gs before hval0 hW hcnd _
  have hval : ∀ (j : Nat) t v, Try.f7.params[j]? = some t → args[j]? = some v → Value.okWide Try.prog W .any base t v := hval0
  have hW' := hW
  obtain ⟨p, q, hA0, hV, rfl, hfz, hnd⟩ := hW
  have hA : DataW.TrodAll enc Try.prog W 0 (fun _ => true) true Try.f7.params.toList args.toList ds p := hA0
  rw [Try.params7] at hA hval
  obtain ⟨v0, vs0, d0, ds0, p0, q0, hargs, rfl, rfl, h0, r0⟩ := trodAll_cons hA
  obtain ⟨v1, vs1, d1, ds1, p1, q1, rfl, rfl, rfl, h1, r1⟩ := trodAll_cons r0
  obtain ⟨v2, vs2, d2, ds2, p2, q2, rfl, rfl, rfl, h2, r2⟩ := trodAll_cons r1
  obtain ⟨v3, vs3, d3, ds3, p3, q3, rfl, rfl, rfl, h3, r3⟩ := trodAll_cons r2
  obtain ⟨rfl, rfl, rfl⟩ := trodAll_nil r3
  obtain rfl : args = #[v0, v1, v2, v3] := by cases args; simp_all
  obtain ⟨rfl, rfl⟩ := trodVars_none hV
  obtain ⟨a0, len0, cap0, rfl⟩ := okWide_slice Try.underlying32 (hval 0 32 v0 rfl rfl)
  have k0 := h0
  have lt0 : ∀ x ∈ p0, x.block < W.heap.size := by obtain ⟨m, hm⟩ := k0; exact DataW.trod_lt m _ _ _ hm
  obtain ⟨z0, w0⟩ : ∃ zs, IsRow .u8 W a0 len0 cap0 zs := by
    obtain ⟨fuel, hf⟩ := h0
    rcases open_ints Try.underlying32 Try.underlying5 (by kernel_rfl) hf with ⟨hcs, _⟩ | ⟨x, l, c, zs, hcs, _, hl, hm, hz, _, hcell, hwz⟩
    · simp [Value.cells] at hcs
      obtain ⟨rfl, rfl, rfl⟩ := hcs
      exact ⟨[], .inl ⟨rfl, rfl, rfl, rfl⟩⟩
    · simp [Value.cells] at hcs
      obtain ⟨rfl, rfl, rfl⟩ := hcs
      exact ⟨zs, .inr ⟨_, rfl, hl, hm, by simpa using hz, hcell, hwz⟩⟩
  obtain ⟨a1, rfl, rfl, rfl, w1⟩ := open_int Try.underlying2 (hval 1 2 v1 rfl rfl) h1
  obtain ⟨a2, rfl, rfl, rfl, w2⟩ := open_int Try.underlying3 (hval 2 3 v2 rfl rfl) h2
  obtain ⟨a3, rfl, rfl, rfl, w3⟩ := open_string Try.underlying9 (hval 3 9 v3 rfl rfl) h3
  clear hA0 hval0
  refine (walk a0 len0 cap0 z0 a1 a2 a3 W w0 w1 w2 w3).mono fun e W' ⟨he, bel⟩ => ?_
  subst he
  exact ⟨_, rfl, _, _, _, [], _, [], hW', trodAll_mk1 (shut_bool Try.underlying4 _), (trodAll_cons_mk (Below.trod laidOut (by kernel_rfl) (of_decide_eq_true (by kernel_rfl)) k0 bel lt0) (trodAll_cons_mk (shut_int Try.underlying2 w1) (trodAll_cons_mk (shut_int Try.underlying3 w2) (trodAll_cons_mk (shut_string Try.underlying9 w3) trodAll_mk0)))), rfl, bel.frame _, fun h => by cases h⟩

theorem over : Rows.octetPutsRow.holds Try.pinned (OpenSpec.ofChange Rows.octetPutsSpec) :=
  OpenClaim.holds_of_wide 7 Try.f7 rfl rfl rfl rfl rfl rfl rfl ⟨rfl, rfl, rfl, rfl, rfl⟩ rfl rfl rfl rfl rfl (by kernel_rfl) Try.func7 (by kernel_rfl)
    (of_decide_eq_true (by kernel_rfl)) (by unfold Func.isWrapper; first | (rw [if_pos (by decide +kernel)]; kernel_rfl) | (rw [if_neg (by decide +kernel)]; exact ⟨rfl, rfl⟩))
    (fun os started H enc _ => lifted os started H enc)

/-- ████ THE STATEMENT ████ -/
theorem proved : Rows.OctetPutsSaid := over
#print axioms proved
end Go.Proofs.Ytngjflcnfjbooaa.octetPuts
