/-
  WALK of layer 23: what globals hands back tells each symbol that other files may refer to.
-/
import Derived.Test.YtmabenffdpipmaaSd
import Derived.RangeFuncBox
namespace Go.Proofs.Ytmabenffdpipmaa.By
open Go.RowKit
open Mem Rf
attribute [local go_sem] Oper.semAt_some

theorem symbols_tells (q : Nat) (Bg B : Nat) (A : Option Addr) (n c : Nat) (os : List Ob) (w : World) (hBg : w.cell? ⟨Bg, 0, none⟩ = some (.slice A n c)) (hO : ObL w B A n c os) (hB : B ≤ w.heap.size) :
    TellsX Fence.wide q Try.prog 28 #[.pointer (some ⟨Bg, 0, none⟩)] gsE (fun _ k => k < B) (fun _ _ => True) (allS (lists os)) w := by
  intro l J Jx W hb hJ hJx hY h0
  exact symbols1_in q l Bg B A n c os J Jx (fun k => k < B) (fun _ h => h) (fun s X o h => hJ _ _ _ h ((Keeps.refl _ X).alloc o))
    (fun pre x W1 h1 h2 => (hY pre x W1 h1 h2).mono fun e W' h => h.elim (fun h => .inl h) (fun h => .inr ⟨h.1, h.2.1⟩)) W ((hb.cell (World.block_lt_of_cell? w _ hBg)).trans hBg) (hO.below (hb.mono hB)) h0

theorem globs_pre {L : List (List Sy)} {pre : List Gs} {x : Gs} (h : pre ++ [x] <+: allS L) (hx : isG x.2 = true) : (pre.filter fun y => isG y.2) ++ [x] <+: globs L := by
  have := List.IsPrefix.filter (fun y : Gs => isG y.2) h
  rw [List.filter_append] at this
  simpa [hx, globs] using this
theorem globs_skip {pre : List Gs} {x : Gs} (hx : isG x.2 = false) : (pre ++ [x]).filter (fun y => isG y.2) = pre.filter fun y => isG y.2 := by
  rw [List.filter_append]; simp [hx]
theorem globs_take {pre : List Gs} {x : Gs} (hx : isG x.2 = true) : (pre ++ [x]).filter (fun y => isG y.2) = (pre.filter fun y => isG y.2) ++ [x] := by
  rw [List.filter_append]; simp [hx]

set_option maxRecDepth 100000 in
set_option maxHeartbeats 2000000 in
theorem globals1_in (q : Nat) (l Bg B : Nat) (A : Option Addr) (n c : Nat) (os : List Ob) (J Jx : List Gs → World → Prop) (W : World)
    (hBg : W.cell? ⟨Bg, 0, none⟩ = some (.slice A n c)) (hO : ObL W B A n c os) (hB : B ≤ W.heap.size)
    (hJ : ∀ s X Y, J s X → Keeps (fun k => k < W.heap.size) X Y → J s Y)
    (hJx : ∀ s X Y, Jx s X → Keeps (fun k => k < W.heap.size) X Y → (∀ p, Y.cell? p = X.cell? p) → Jx s Y)
    (hY : ∀ pre x W1, J pre W1 → pre ++ [x] <+: globs (lists os) → YieldAt Fence.wide (q - 1) Try.prog l (gsE x) W1 fun e W' =>
      (e = .returned (.bool true) ∧ J (pre ++ [x]) W' ∧ Keeps (fun k => k < B ∨ W.heap.size ≤ k) W1 W') ∨ (e = .returned (.bool false) ∧ Jx (pre ++ [x]) W' ∧ Keeps (fun k => W.heap.size ≤ k) W1 W'))
    (h0 : J [] W) :
    CallsIn Fence.wide q Try.prog 27 #[.func (.yield l) #[] #[], .pointer (some ⟨Bg, 0, none⟩)] W fun e W' => (∃ v, e = .returned v) ∧
      (J (globs (lists os)) W' ∨ ∃ pre, pre <+: globs (lists os) ∧ Jx pre W') := by
  obtain ⟨L, hL⟩ : ∃ L, lists os = L := ⟨_, rfl⟩
  have hBl := World.block_lt_of_cell? W _ hBg
  have HT := Lib.hid (fun (X : World) (hX : Below W.heap.size W X) => symbols_tells 3 (X.heap.size) B A n c os (X.alloc (.cells #[.slice A n c] 22)) ((Blk.new X _ _).cell 0) ((hO.below (hX.mono hB)).below ((Below.refl B X).alloc (Nat.le_trans hB hX.size) _)) (by have := hX.size; simp; omega))
  rw [hL] at HT hY ⊢
  have HB := Lib.hid hB
  have HJ := Lib.hid hJ
  have HJX := Lib.hid hJx
  have HY := Lib.hid hY
  have HJ0 := Lib.hid h0
  clear hL hO hB hJ hJx hY h0
  refine callsIn_wide.2 ((callsIn_wide (n := 4)).1 ?_)
  refine callsIn_of_wp_marks Try.func27 rfl trivial ?_ rfl
  simp only [Try.ntmps27, List.size_toArray, List.length_cons, List.length_nil, Nat.reduceAdd, Nat.reduceSub, Array.replicate_succ, Array.replicate_zero, List.push_toArray, List.append_toArray, List.nil_append, List.cons_append]
  gi_wp2_with (refine ⟨trivial, ?_⟩; gi_at_call 23; refine (callsIn_wide.2 (symbols_any _ _ _ _)).mono ?_; rintro e w2 ⟨rfl, rfl⟩)
  obtain ⟨WA, hWA⟩ : ∃ WA, W.alloc (.cells #[.func (.yield l) #[] #[]] 70) = WA := ⟨_, rfl⟩
  obtain ⟨WB, hWB⟩ : ∃ WB, WA.alloc (.cells #[.slice A n c] 22) = WB := ⟨_, rfl⟩
  have hbA : Below W.heap.size W WA := hWA ▸ (Below.refl _ _).alloc (Nat.le_refl _) _
  have hsA : WA.heap.size = W.heap.size + 1 := by rw [← hWA]; simp
  have hsB : WB.heap.size = W.heap.size + 2 := by rw [← hWB]; simp [hsA]
  have hyb : WB.cell? ⟨W.heap.size, 0, none⟩ = some (.func (.yield l) #[] #[]) := by rw [← hWB, ← hWA]; exact ((Blk.new W _ _).alloc _).cell 0
  have hkB : Keeps (fun k => k < W.heap.size) W WB := by rw [← hWB, ← hWA]; exact ((Keeps.refl _ W).alloc _).alloc _
  have HTA := Lib.hid (HT.out WA hbA)
  rw [hWB] at HTA
  have hBs := HB.out
  rw [hWA, hWB]
  clear HT
  refine wpIn_rangeX rfl (by decide) (gf := 28) (lb := #[.pointer (some ⟨WA.heap.size, 0, none⟩)]) (by rw [hsA]; rfl) trivial (enters_of Try.func28 (by kernel_rfl) rfl) HTA.out (Below.refl _ _) (fun _ => rfl)
    (fun k => k < WB.heap.size) (fun k h h' => by unfold Two at h; omega) (fun k h => trivial) (fun k h => trivial) (by omega)
    (fun pre X => J (pre.filter fun y => isG y.2) X ∧ X.cell? ⟨W.heap.size, 0, none⟩ = some (.func (.yield l) #[] #[]))
    (fun c pre X => c = .ret ∧ ∃ pre', pre' <+: globs L ∧ Jx pre' X)
    (fun s X Y ⟨h1, h2⟩ hk => ⟨HJ.out _ _ _ h1 (hk.mono fun k hk1 _ => by omega), hk.cell (by show W.heap.size < WB.heap.size; omega) h2⟩)
    (fun c s X Y ⟨hc, p, h1, h2⟩ hk hcl => ⟨hc, p, h1, HJX.out _ _ _ h2 (hk.mono fun k hk1 _ => by omega) hcl⟩)
    ⟨HJ.out _ _ _ HJ0.out hkB, hyb⟩
    (fun x X => { tmps := #[.func (.yield l) #[] #[], .pointer (some ⟨Bg, 0, none⟩), .pointer (some ⟨W.heap.size, 0, none⟩), .pointer (some ⟨X.heap.size, 0, none⟩), .pointer (some ⟨X.heap.size + 1, 0, none⟩), .slice A n c, .func (.func 28) #[] #[.pointer (some ⟨W.heap.size + 1, 0, none⟩)], plV x.1, syV x.2, undef, undef, undef, undef, undef, undef, undef, undef, undef, undef, undef, undef, undef, undef, undef], defers := [] })
    (fun x X => (X.alloc (.cells #[.int .i64 (x.1.1 : Int), .int .i64 (x.1.2 : Int)] 46)).alloc (.cells (encSy x.2).toArray 42))
    (fun x X => ((Keeps.refl _ X).alloc _).alloc _) ?assign ?body ?done ?stop
  case assign =>
    rintro l1 ⟨⟨a, b⟩, y0, y1, y2, y3, y4⟩ X K hK
    unfold gsE plV syV
    unfold plV syV encSy at hK
    dsimp only at hK ⊢
    gi_wp2
    exact hK
  case body =>
    rintro l1 pre ⟨⟨a, b⟩, y0, y1, y2, y3, y4⟩ V0 X ⟨hj, hyc⟩ hpre hsz hk hcl
    unfold encSy at hk hcl
    unfold plV syV
    dsimp only at hk hcl ⊢
    have hN : ∀ p : Addr, p.block = V0.heap.size ∨ p.block = V0.heap.size + 1 → X.cell? p = ((V0.alloc (.cells #[.int .i64 (a : Int), .int .i64 (b : Int)] 46)).alloc (.cells #[.string y0, .bool y1, .int .i64 y2, .int .i64 y3, .int .i64 y4] 42)).cell? p := fun p _ => hcl p
    have hb1 : Blk ((V0.alloc (.cells #[.int .i64 (a : Int), .int .i64 (b : Int)] 46)).alloc (.cells #[.string y0, .bool y1, .int .i64 y2, .int .i64 y3, .int .i64 y4] 42)) V0.heap.size 46 #[.int .i64 (a : Int), .int .i64 (b : Int)] := (Blk.new V0 _ _).alloc _
    have hb2 : Blk ((V0.alloc (.cells #[.int .i64 (a : Int), .int .i64 (b : Int)] 46)).alloc (.cells #[.string y0, .bool y1, .int .i64 y2, .int .i64 y3, .int .i64 y4] 42)) (V0.heap.size + 1) 42 #[.string y0, .bool y1, .int .i64 y2, .int .i64 y3, .int .i64 y4] := by
      have := Blk.new (V0.alloc (.cells #[.int .i64 (a : Int), .int .i64 (b : Int)] 46)) 42 #[.string y0, .bool y1, .int .i64 y2, .int .i64 y3, .int .i64 y4]
      rwa [World.size_alloc] at this
    have p0 : X.cell? ⟨V0.heap.size, 0, none⟩ = some (.int .i64 (a : Int)) := by rw [hN _ (.inl rfl), hb1.cell]; rfl
    have p1 : X.cell? ⟨V0.heap.size, 1, none⟩ = some (.int .i64 (b : Int)) := by rw [hN _ (.inl rfl), hb1.cell]; rfl
    have s0 : X.cell? ⟨V0.heap.size + 1, 0, none⟩ = some (.string y0) := by rw [hN _ (.inr rfl), hb2.cell]; rfl
    have s1 : X.cell? ⟨V0.heap.size + 1, 1, none⟩ = some (.bool y1) := by rw [hN _ (.inr rfl), hb2.cell]; rfl
    have s2 : X.cell? ⟨V0.heap.size + 1, 2, none⟩ = some (.int .i64 y2) := by rw [hN _ (.inr rfl), hb2.cell]; rfl
    have s3 : X.cell? ⟨V0.heap.size + 1, 3, none⟩ = some (.int .i64 y3) := by rw [hN _ (.inr rfl), hb2.cell]; rfl
    have s4 : X.cell? ⟨V0.heap.size + 1, 4, none⟩ = some (.int .i64 y4) := by rw [hN _ (.inr rfl), hb2.cell]; rfl
    clear hN hb1 hb2 hk hcl
    have HJ1 := Lib.hid hj
    have HPRE := Lib.hid hpre
    clear hj hpre hkB
    cases y1 with
    | true =>
      have HG : Hid _ := Lib.hid (globs_skip (pre := pre) (x := ((a, b), y0, true, y2, y3, y4)) rfl)
      gi_wp2
      refine ⟨fun _ h => (by cases h), ?_⟩
      gi_wp2
      exact ⟨Keeps.refl _ X, by rw [HG.out]; exact HJ1.out, hyc⟩
    | false =>
      by_cases hd : y4 = -1
      · have hd' : (y4 != -1) = false := by simp [hd]
        have HG : Hid _ := Lib.hid (globs_skip (pre := pre) (x := ((a, b), y0, false, y2, y3, y4)) (by simp [isG, hd]))
        clear hd
        gi_wp2
        refine ⟨fun _ h => (by cases h), ?_⟩
        gi_wp2
        exact ⟨Keeps.refl _ X, by rw [HG.out]; exact HJ1.out, hyc⟩
      · have hd' : (y4 != -1) = true := by simp [hd]
        have hg : isG (y0, false, y2, y3, y4) = true := by simp [isG, hd]
        have HG : Hid _ := Lib.hid (globs_take (pre := pre) (x := ((a, b), y0, false, y2, y3, y4)) hg)
        obtain ⟨fn, tmps, assign, body, hy, hR⟩ := HY.out _ ((a, b), y0, false, y2, y3, y4) X HJ1.out (globs_pre HPRE.out hg)
        unfold gsE plV syV at hy
        dsimp only at hy
        have HR := Lib.hid hR
        clear hd hR
        gi_wp2
        refine (roundIn_any HR.out).mono ?_
        rintro e W3 (⟨rfl, hJ4, hk4⟩ | ⟨rfl, hJx4, hk4⟩)
        · gi_wp2
          exact ⟨hk4.mono fun k h _ => h.elim .inl fun h => .inr (by unfold Two at h; omega), by rw [HG.out]; exact hJ4, hk4.cell (.inr (Nat.le_refl _)) hyc⟩
        · gi_wp2
          exact ⟨hk4.mono fun k h _ => (by unfold Two at h; omega), rfl, _, globs_pre HPRE.out hg, hJx4⟩
  case done =>
    rintro X ⟨hj, _⟩ hD
    gi_wp2
    refine ⟨by simp, .inl ⟨_, _, rfl, run_takeDeferred hD, ?_⟩⟩
    refine ⟨_, results_none rfl _ _ _, ⟨_, rfl⟩, .inl (HJ.out _ _ _ hj ((Keeps.refl (fun k => k < W.heap.size) X).putObj (l := WB.heap.size) (by omega) _))⟩
  case stop =>
    rintro c pre X _ ⟨rfl, p, h1, h2⟩ hD
    gi_wp2
    refine ⟨by simp, .inl ⟨_, _, rfl, run_takeDeferred hD, ?_⟩⟩
    refine ⟨_, results_none rfl _ _ _, ⟨_, rfl⟩, .inr ⟨p, h1, HJX.out _ _ _ h2 ((Keeps.refl (fun k => k < W.heap.size) X).putObj (l := WB.heap.size) (by omega) _) (cell_putDeferred hD)⟩⟩

theorem globals_tells (q : Nat) (Bg B : Nat) (A : Option Addr) (n c : Nat) (os : List Ob) (w : World) (hBg : w.cell? ⟨Bg, 0, none⟩ = some (.slice A n c)) (hO : ObL w B A n c os) (hB : B ≤ w.heap.size) :
    TellsX Fence.wide q Try.prog 27 #[.pointer (some ⟨Bg, 0, none⟩)] gsE (fun L k => k < B ∨ L ≤ k) (fun L k => k < L) (globs (lists os)) w := by
  intro l J Jx W hb hJ hJx hY h0
  exact globals1_in q l Bg B A n c os J Jx W ((hb.cell (World.block_lt_of_cell? w _ hBg)).trans hBg) (hO.below (hb.mono hB)) (Nat.le_trans hB hb.size) hJ hJx hY h0
end Go.Proofs.Ytmabenffdpipmaa.By
