/-
  WALKS of layer 6: the law QueueRises.
-/
import Derived.Test.YtajlbiohaafpnaaQb
namespace Go.Proofs.Ytajlbiohaafpnaa.Qu
open Go.RowKit Go.Maps
open Mem Hp

theorem row_tn {U : Nat → Prop} {w w' : World} {base : Nat} {e : TypeId} {size : Nat} {v : Value} {n : Nat} {xs : List Value} (h : w.ownsRow base e size v n xs) (ht : Tn U w w') (hu : ∀ g, v.ownBlock = some g → ¬ U g) : w'.ownsRow base e size v n xs := by
  obtain ⟨h1, h2⟩ := h
  refine ⟨h1, ?_⟩
  rcases h2 with h2 | ⟨g, cap, cur, rfl, hb, hg, r⟩
  · exact .inl h2
  · have hlt : g < w.heap.size := (Array.getElem?_eq_some_iff.1 hg).1
    exact .inr ⟨g, cap, cur, rfl, hb, (ht.block g hlt (hu g rfl)).trans hg, r⟩

/-- A queue and two rows of numbers, all of the call's own, apart from one another. -/
structure Rise (B : Nat) (w w' : World) (q : Nat) (U : Nat → Prop) (m : Nat) (S : It → Prop) (v6 : Value) (k6 : Nat) (l6 : List Value) (v7 : Value) (k7 : Nat) (l7 : List Value) : Prop where
  own : Own B w w' q U m S
  r6 : w'.ownsRow B 3 1 v6 k6 l6
  r7 : w'.ownsRow B 3 1 v7 k7 l7
  f6 : ∀ g, v6.ownBlock = some g → ¬ U g ∧ g ≠ q
  f7 : ∀ g, v7.ownBlock = some g → ¬ U g ∧ g ≠ q
  f67 : ∀ g, v6.ownBlock = some g → v7.ownBlock ≠ some g

theorem Rise.symm {B : Nat} {w w' : World} {q : Nat} {U : Nat → Prop} {m : Nat} {S : It → Prop} {v6 v7 : Value} {k6 k7 : Nat} {l6 l7 : List Value} (h : Rise B w w' q U m S v6 k6 l6 v7 k7 l7) : Rise B w w' q U m S v7 k7 l7 v6 k6 l6 :=
  ⟨h.own, h.r7, h.r6, h.f7, h.f6, fun g h7 h6 => h.f67 g h6 h7⟩

theorem Rise.turn {B : Nat} {w a b : World} {q : Nat} {U : Nat → Prop} {m m' : Nat} {S S' : It → Prop} {v6 v7 : Value} {k6 k7 : Nat} {l6 l7 : List Value} (h : Rise B w a q U m S v6 k6 l6 v7 k7 l7) (hq : Qs b q U m' S') (ht : Tn U a b) : Rise B w b q U m' S' v6 k6 l6 v7 k7 l7 :=
  ⟨h.own.turn hq ht, row_tn h.r6 ht (fun g hg => (h.f6 g hg).1), row_tn h.r7 ht (fun g hg => (h.f7 g hg).1), h.f6, h.f7, h.f67⟩

theorem Rise.app {B : Nat} {w w1 w2 : World} {q : Nat} {U : Nat → Prop} {m : Nat} {S : It → Prop} {v6 v7 v' : Value} {k6 k7 k' : Nat} {l6 l7 l' : List Value} (h : Rise B w w1 q U m S v6 k6 l6 v7 k7 l7) (o : Obj) {g : Nat}
    (hgrow : (w1.alloc o).grownBy w2 v6.ownBlock) (hown : w2.ownsRow B 3 1 v' k' l') (hv : v'.ownBlock = some g) (hat : v6.ownBlock = some g ∨ g = w1.heap.size + 1) : Rise B w w2 q U m S v' k' l' v7 k7 l7 := by
  have T : Tn (fun b => v6.ownBlock = some b) w1 w2 := ((Tn.refl _ _).alloc o).by_row hgrow (fun _ e => .inl e)
  have hl := h.own.qs.lt
  refine ⟨⟨h.own.qs.kept T (fun b hb e => (h.f6 b e).1 hb) (fun e => (h.f6 q e).2 rfl), h.own.ge, below_tn h.own.bel T (fun x e => (h.r6.lt x e).1) h.own.size, Nat.le_trans h.own.size T.size⟩, hown, row_tn h.r7 T (fun g hg e => h.f67 g e hg), ?_, h.f7, ?_⟩
  · intro g' e
    obtain rfl : g = g' := Option.some.inj (hv.symm.trans e)
    rcases hat with hat | hat
    · exact h.f6 g hat
    · exact ⟨fun hu => by have := hl.2 _ hu; omega, by omega⟩
  · intro g' e
    obtain rfl : g = g' := Option.some.inj (hv.symm.trans e)
    rcases hat with hat | hat
    · exact h.f67 g hat
    · intro e7
      have := (h.r7.lt g e7).2
      omega

theorem rise_start {B : Nat} {w w' : World} {q : Nat} {U : Nat → Prop} {m : Nat} {S : It → Prop} (h : Own B w w' q U m S) : Rise B w w' q U m S (.slice none 0 0) 0 [] (.slice none 0 0) 0 [] :=
  ⟨h, World.ownsRow_nil _ _ _ _, World.ownsRow_nil _ _ _ _, fun _ e => (by cases e), fun _ e => (by cases e), fun _ e => (by cases e)⟩

def ids (L : List It) : List Value := L.map fun x => .int .i64 x.1
def keys (L : List It) : List Value := L.map fun x => .int .i64 x.2
theorem ids_snoc (L : List It) (x : It) : ids L ++ [.int .i64 x.1] = ids (L ++ [x]) := by simp [ids]
theorem keys_snoc (L : List It) (x : It) : keys L ++ [.int .i64 x.2] = keys (L ++ [x]) := by simp [keys]

/-- What is taken comes behind what was taken. -/
def Past (L : List It) (S : It → Prop) : Prop := ∀ x, x ∈ L → ∀ y, S y → fore x y = true
theorem past_next {L : List It} {S : It → Prop} {x : It} (h : Past L S) (hle : ∀ y, S y → le x y) : Past (L ++ [x]) (fun y => S y ∧ y ≠ x) := by
  intro z hz y hy
  rw [List.mem_append, List.mem_singleton] at hz
  rcases hz with hz | rfl
  · exact h z hz y hy.1
  · exact fore_of (hle y hy.1) (Ne.symm hy.2)

theorem infoI : (Try.prog.info? 3).map (fun i => (i.zero, i.size, i.bytes)) = some (some (.int .i64 0), 1, 8) := by kernel_rfl

theorem row_last {w : World} {B : Nat} {v : Value} {k : Nat} {l : List Value} {u : Value} (h : w.ownsRow B 3 1 v (k + 1) (l ++ [u])) (hl : l.length = k) : ∃ g c, v = .slice (some ⟨g, 0, none⟩) (k + 1) c ∧ w.cell? ⟨g, k, none⟩ = some u := by
  obtain ⟨g, cap, rfl, _, _⟩ := h.form (by omega)
  refine ⟨g, cap, rfl, ?_⟩
  rw [h.cellAt k (by omega), List.getElem?_append_right (by omega), hl, Nat.sub_self]
  rfl

theorem row_form {w : World} {B : Nat} {v : Value} {k : Nat} {l : List Value} (h : w.ownsRow B 3 1 v k l) : ∃ A c, v = .slice A k c := by
  rcases h.2 with ⟨rfl, rfl⟩ | ⟨g, cap, cur, rfl, _⟩
  · exact ⟨_, _, rfl⟩
  · exact ⟨_, _, rfl⟩

set_option maxHeartbeats 8000000 in
set_option maxRecDepth 100000 in
theorem rises_law (w : World) (A : Option Addr) (len cap : Nat) (K : Nat → Int) (M : Nat → It) (hM : Moves w A len cap K M) :
    Calls Try.prog 4 #[.slice A len cap] w fun e w' => e = .returned (.bool true) ∧ Below w.heap.size w w' := by
  by_cases hbig : 200 < len
  · have hd : decide (200 < (len : Int)) = true := by simp; omega
    clear hM hbig
    go_enter Try.func4, Try.ntmps4
    go_wp2_with fail
    refine (known_any _).mono ?_
    rintro e w1 ⟨rfl, hb⟩
    go_wp2_with fail
    go_ret
    exact ⟨rfl, hb⟩
  · have hl : len ≤ 200 := by omega
    have hd : decide (200 < (len : Int)) = false := by simp; omega
    have HM := Lib.hid hM
    clear hM hbig
    go_enter Try.func4, Try.ntmps4
    go_wp2_with fail
    refine (new_any w).mono ?_
    rintro e w0 ⟨rfl, hq0, hb0⟩
    have H0 := Lib.hid (own_new hq0 hb0)
    clear hq0 hb0
    generalize (fun b => w.heap.size ≤ b ∧ b < w.heap.size + 2) = U at H0
    generalize hq : w.heap.size + 2 = q at H0 ⊢
    clear hq
    go_wp2_with fail
    go_loopw [4, 5] (fun c v wr => ∃ (i n : Nat) (U : Nat → Prop) (S : It → Prop), i ≤ len ∧ v = .int .i64 i ∧ c = .int .i64 n ∧ n ≤ i ∧ Hid (Own w.heap.size w wr q U n S)) (fun _ v _ => len - (intOf v).toNat)
    case atStart => exact ⟨0, 0, U, _, by omega, rfl, rfl, by omega, H0⟩
    case round =>
      obtain ⟨i, n, U, S, hi, rfl, rfl, hni, HT⟩ := hrel
      clear H0
      by_cases hlt : i < len
      · obtain ⟨x, rfl, ⟨c0, c1, c2⟩, k0, k1, k2⟩ := (HM.out.below (HT.out.bel)).at_ hlt
        have HX := Lib.hid (And.intro k1 k2)
        clear c0 k0 k1 k2
        generalize hxm : M i = xm at c1 c2 HX
        clear hxm
        have hlt1 : (i : Int) < (len : Int) := by omega
        have hi0 : (0 : Int) ≤ (i : Int) := by omega
        have lx : (x.add (i * 3)).block < w.heap.size := by
          obtain ⟨x', e, ⟨h0, _, _⟩, _⟩ := HM.out.at_ hlt
          obtain rfl : x = x' := by injection e
          exact World.block_lt_of_cell? w _ h0
        have XU : Hid (¬ U (x.add (i * 3)).block) := Lib.hid (fun hx => by have := HT.out.ge _ hx; omega)
        have CC := Lib.hid (And.intro c1 c2)
        clear lx
        by_cases hy : ∃ y, S y ∧ y.1 = xm.1
        · obtain ⟨y, hy1, hy2⟩ := hy
          have HA := Lib.hid (put_no wr.drew q U n S (HT.out.qs.below (Below.refl _ _).drew) xm.1 xm.2 y hy1 hy2)
          clear hy1 hy2
          go_wp2_with fail
          go_region_held3 (fun w' => w'.cell? ⟨(x.add (i * 3)).block, (x.add (i * 3)).off + 1, none⟩ = some (.int .i64 xm.1) ∧ w'.cell? ⟨(x.add (i * 3)).block, (x.add (i * 3)).off + 2, none⟩ = some (.int .i64 xm.2)) (first | go_keep)
            (first | (go_at_call 11; refine HA.out.mono ?_; rintro e w2 ⟨rfl, rfl⟩))
          go_wp2_with fail
          go_roundw
          case rel => exact ⟨i + 1, n, U, S, by omega, by go_num, rfl, by omega, Lib.hid (HT.out.turn (HT.out.qs.below (Below.refl _ _).drew) (Tn.refl U wr).drew)⟩
          case measure => simp [intOf]; omega
        · have HY := Lib.hid (show ∀ y, S y → y.1 ≠ xm.1 from fun y h1 h2 => hy ⟨y, h1, h2⟩)
          have HT1 := Lib.hid (HT.out.turn (HT.out.qs.below (Below.refl _ _).drew) (Tn.refl U wr).drew)
          have HA := Lib.hid (put_yes wr.drew q U n S HT1.out.qs xm HX.out (by omega) HY.out)
          clear hy
          go_wp2_with fail
          go_region_held3 (fun w' => w'.cell? ⟨(x.add (i * 3)).block, (x.add (i * 3)).off + 1, none⟩ = some (.int .i64 xm.1) ∧ w'.cell? ⟨(x.add (i * 3)).block, (x.add (i * 3)).off + 2, none⟩ = some (.int .i64 xm.2)) (first | go_keep | exact ⟨d1, d2⟩)
            (first | (go_at_call 11; refine HA.out.mono ?_; rintro e w2 ⟨rfl, hq2, ht2⟩; have d1 := ht2.cell (show wr.drew.cell? _ = _ from CC.out.1) XU.out; have d2 := ht2.cell (show wr.drew.cell? _ = _ from CC.out.2) XU.out))
          have HT2 := Lib.hid (HT1.out.grow hq2 ht2)
          clear hq2 ht2 c1 c2 d1 d2
          go_wp2_with fail
          go_roundw
          case rel => exact ⟨i + 1, n + 1, _, _, by omega, by go_num, by go_num, by omega, HT2⟩
          case measure => simp [intOf]; omega
      · obtain rfl : i = len := by omega
        clear HM hlt
        obtain ⟨i0, hi0, hz0, hz1, hz2⟩ := info_parts infoI
        have HI0 := Lib.hid hi0
        have HZ0 := Lib.hid hz0
        have HZ1 := Lib.hid hz1
        have HZ2 := Lib.hid hz2
        clear hi0 hz0 hz1 hz2
        go_wp2_with fail
        go_loopw [6, 7, 8] (fun a6 a7 v wr => ∃ (v6 v7 : Value) (k m : Nat) (S : It → Prop) (L : List It), a6 = v6 ∧ a7 = v7 ∧ v = .int .i64 k ∧ m + k = n ∧ Hid (L.length = k) ∧ Hid (Past L S) ∧ Hid (Rise w.heap.size w wr q U m S v6 k (ids L) v7 k (keys L))) (fun _ _ v _ => n - (intOf v).toNat)
        case atStart => exact ⟨_, _, 0, n, S, [], rfl, rfl, rfl, rfl, Lib.hid rfl, Lib.hid (fun _ h => by cases h), Lib.hid (rise_start HT.out)⟩
        case round =>
          obtain ⟨v6, v7, k, m, S, L, e6, e7, rfl, hmk, HL, HP, HR⟩ := hrel
          have e6' := e6.symm
          have e7' := e7.symm
          clear e6 e7
          subst e6'
          subst e7'
          clear HT
          have hkn : k ≤ n := by omega
          have hn2 : n ≤ 200 := by omega
          cases m with
          | zero =>
            obtain rfl : k = n := by omega
            have HA := Lib.hid (take_no wr q U S HR.out.own.qs)
            have HN := Lib.hid (qlen_any wr q U 0 S HR.out.own.qs)
            have HK := Lib.hid (known_any wr)
            have hkk : ¬ (k : Int) < (k : Int) := by omega
            clear HP HL hmk
            go_wp2_with fail
            refine HA.out.mono ?_
            rintro e w' ⟨rfl, rfl⟩
            go_wp2_with fail
            refine HN.out.mono ?_
            rintro e w' ⟨rfl, rfl⟩
            go_wp2_with fail
            refine HK.out.mono ?_
            rintro e w4 ⟨rfl, hb4⟩
            have HW := Lib.hid (HR.out.own.bel.trans (hb4.mono HR.out.own.size))
            clear hb4
            go_wp2_with fail
            go_ret
            exact ⟨rfl, HW.out⟩
          | succ m =>
            have hlt : (k : Int) < (n : Int) := by omega
            have HA := Lib.hid (take_yes wr q U m S HR.out.own.qs)
            go_wp2_with fail
            refine HA.out.mono ?_
            rintro e w1 ⟨x, rfl, hSx, hle, hq1, ht1⟩
            have HR1 := Lib.hid (HR.out.turn hq1 ht1)
            have HP1 := Lib.hid (past_next HP.out hle)
            have HF : Hid (∀ y, y ∈ L → fore y x = true) := Lib.hid (fun y hy => HP.out y hy x hSx)
            have HL1 : Hid ((L ++ [x]).length = k + 1) := Lib.hid (by rw [List.length_append, HL.out]; rfl)
            clear hSx hle hq1 ht1 HA HR HP hkn
            cases k with
            | zero =>
              have hz : ¬ (0 : Int) < 0 := by omega
              clear HF
              have tok1 : True := trivial
              have tok2 : True := trivial
              go_wp2_with (first
                | (at_builtin; have _t := tok1; go_must (refine wpList_append_lies _ (by rfl) _ _ 43 (by rfl) w.heap.size 3 i0 (.int .i64 0) 1 8 Try.underlying43 HI0.out HZ0.out HZ1.out HZ2.out (by rfl) (by omega) v6 0 (ids L) (by rfl) (HR1.out.r6.alloc _) ⟨w1.heap.size, 0, none⟩ 1 1 [.int .i64 x.1] (by rfl) (by rfl) (by exact World.news_of_block (heap_alloc_new _ _)) (by simp [Value.oneCell']) (by omega) (by unfold maxLen; omega) (by omega) (by have := HR1.out.own.size; simp; omega) (w1.heap.size + 1) (by simp) ?_); intro g8 c8 w2 hown8 hgrow8 hat8 hlt8; have HR2 : Hid (Rise _ _ w2 _ _ _ _ (.slice (some ⟨g8, 0, none⟩) (0 + 1) c8) (0 + 1) (ids (L ++ [x])) _ _ _) := Lib.hid (HR1.out.app _ hgrow8 (by rw [← ids_snoc]; exact hown8) rfl hat8); clear tok1 _t hown8 hgrow8 hat8 hlt8)
                | (at_builtin; have _t := tok2; go_must (refine wpList_append_lies _ (by rfl) _ _ 43 (by rfl) w.heap.size 3 i0 (.int .i64 0) 1 8 Try.underlying43 HI0.out HZ0.out HZ1.out HZ2.out (by rfl) (by omega) v7 0 (keys L) (by rfl) (HR2.out.r7.alloc _) ⟨w2.heap.size, 0, none⟩ 1 1 [.int .i64 x.2] (by rfl) (by rfl) (by exact World.news_of_block (heap_alloc_new _ _)) (by simp [Value.oneCell']) (by omega) (by unfold maxLen; omega) (by omega) (by have := HR2.out.own.size; simp; omega) (w2.heap.size + 1) (by simp) ?_); intro g9 c9 w3 hown9 hgrow9 hat9 hlt9; have HR3 : Hid (Rise _ _ w3 _ _ _ _ _ _ _ (.slice (some ⟨g9, 0, none⟩) (0 + 1) c9) (0 + 1) (keys (L ++ [x]))) := Lib.hid (HR2.out.symm.app _ hgrow9 (by rw [← keys_snoc]; exact hown9) rfl hat9).symm; clear tok2 _t hown9 hgrow9 hat9 hlt9))
              go_roundw
              case rel => exact ⟨_, _, 0 + 1, m, _, _, rfl, rfl, by go_num, by omega, HL1, HP1, HR3⟩
              case measure => simp [intOf]; omega
            | succ k =>
              have hL : L ≠ [] := fun e => by have := HL.out; rw [e] at this; cases this
              obtain ⟨L', y, rfl⟩ : ∃ L' y, L = L' ++ [y] := ⟨L.dropLast, L.getLast hL, (List.dropLast_concat_getLast hL).symm⟩
              clear hL
              have hL' : L'.length = k := by have := HL.out; rw [List.length_append] at this; simpa using this
              have h6 := HR1.out.r6
              have h7 := HR1.out.r7
              rw [← ids_snoc] at h6
              rw [← keys_snoc] at h7
              obtain ⟨g6, c6, rfl, k6⟩ := row_last h6 (by simpa [ids] using hL')
              obtain ⟨g7, c7, rfl, k7⟩ := row_last h7 (by simpa [keys] using hL')
              have hfy := (fore_iff y x).1 (HF.out y (by simp))
              have hk0 : (0 : Int) < (k : Int) + 1 := by omega
              have hk1 : (k : Int) + 1 ≤ 200 := by omega
              clear h6 h7 HF HL hL'
              obtain ⟨x1, x2⟩ := x
              rcases hfy with hA | ⟨hB, hB1⟩
              · have t1 : ¬ x2 < y.2 := by have : y.2 < x2 := hA; omega
                have t2 : (x2 == y.2) = false := by have : y.2 < x2 := hA; simp; omega
                clear hA
                have tok1 : True := trivial
                have tok2 : True := trivial
                go_wp2_with (first
                  | (at_builtin; have _t := tok1; go_must (refine wpList_append_lies _ (by rfl) _ _ 43 (by rfl) w.heap.size 3 i0 (.int .i64 0) 1 8 Try.underlying43 HI0.out HZ0.out HZ1.out HZ2.out (by rfl) (by omega) (.slice (some ⟨g6, 0, none⟩) (k + 1) c6) (k + 1) (ids (L' ++ [y])) (by rfl) (HR1.out.r6.alloc _) ⟨w1.heap.size, 0, none⟩ 1 1 [.int .i64 ((x1, x2) : It).1] (by rfl) (by rfl) (by exact World.news_of_block (heap_alloc_new _ _)) (by simp [Value.oneCell']) (by omega) (by unfold maxLen; omega) (by omega) (by have := HR1.out.own.size; simp; omega) (w1.heap.size + 1) (by simp) ?_); intro g8 c8 w2 hown8 hgrow8 hat8 hlt8; have HR2 : Hid (Rise _ _ w2 _ _ _ _ (.slice (some ⟨g8, 0, none⟩) ((k + 1) + 1) c8) ((k + 1) + 1) (ids ((L' ++ [y]) ++ [((x1, x2) : It)])) _ _ _) := Lib.hid (HR1.out.app _ hgrow8 (by rw [← ids_snoc]; exact hown8) rfl hat8); clear tok1 _t hown8 hgrow8 hat8 hlt8)
                  | (at_builtin; have _t := tok2; go_must (refine wpList_append_lies _ (by rfl) _ _ 43 (by rfl) w.heap.size 3 i0 (.int .i64 0) 1 8 Try.underlying43 HI0.out HZ0.out HZ1.out HZ2.out (by rfl) (by omega) (.slice (some ⟨g7, 0, none⟩) (k + 1) c7) (k + 1) (keys (L' ++ [y])) (by rfl) (HR2.out.r7.alloc _) ⟨w2.heap.size, 0, none⟩ 1 1 [.int .i64 ((x1, x2) : It).2] (by rfl) (by rfl) (by exact World.news_of_block (heap_alloc_new _ _)) (by simp [Value.oneCell']) (by omega) (by unfold maxLen; omega) (by omega) (by have := HR2.out.own.size; simp; omega) (w2.heap.size + 1) (by simp) ?_); intro g9 c9 w3 hown9 hgrow9 hat9 hlt9; have HR3 : Hid (Rise _ _ w3 _ _ _ _ _ _ _ (.slice (some ⟨g9, 0, none⟩) ((k + 1) + 1) c9) ((k + 1) + 1) (keys ((L' ++ [y]) ++ [((x1, x2) : It)]))) := Lib.hid (HR2.out.symm.app _ hgrow9 (by rw [← keys_snoc]; exact hown9) rfl hat9).symm; clear tok2 _t hown9 hgrow9 hat9 hlt9))
                go_roundw
                case rel => exact ⟨_, _, k + 1 + 1, m, _, _, rfl, rfl, by go_num, by omega, HL1, HP1, HR3⟩
                case measure => simp [intOf]; omega
              · obtain ⟨y1, y2⟩ := y
                obtain rfl : y2 = x2 := hB
                have t1 : ¬ x1 ≤ y1 := by have : y1 < x1 := hB1; omega
                clear hB1
                have tok1 : True := trivial
                have tok2 : True := trivial
                go_wp2_with (first
                  | (at_builtin; have _t := tok1; go_must (refine wpList_append_lies _ (by rfl) _ _ 43 (by rfl) w.heap.size 3 i0 (.int .i64 0) 1 8 Try.underlying43 HI0.out HZ0.out HZ1.out HZ2.out (by rfl) (by omega) (.slice (some ⟨g6, 0, none⟩) (k + 1) c6) (k + 1) (ids (L' ++ [(y1, y2)])) (by rfl) (HR1.out.r6.alloc _) ⟨w1.heap.size, 0, none⟩ 1 1 [.int .i64 ((x1, y2) : It).1] (by rfl) (by rfl) (by exact World.news_of_block (heap_alloc_new _ _)) (by simp [Value.oneCell']) (by omega) (by unfold maxLen; omega) (by omega) (by have := HR1.out.own.size; simp; omega) (w1.heap.size + 1) (by simp) ?_); intro g8 c8 w2 hown8 hgrow8 hat8 hlt8; have HR2 : Hid (Rise _ _ w2 _ _ _ _ (.slice (some ⟨g8, 0, none⟩) ((k + 1) + 1) c8) ((k + 1) + 1) (ids ((L' ++ [(y1, y2)]) ++ [((x1, y2) : It)])) _ _ _) := Lib.hid (HR1.out.app _ hgrow8 (by rw [← ids_snoc]; exact hown8) rfl hat8); clear tok1 _t hown8 hgrow8 hat8 hlt8)
                  | (at_builtin; have _t := tok2; go_must (refine wpList_append_lies _ (by rfl) _ _ 43 (by rfl) w.heap.size 3 i0 (.int .i64 0) 1 8 Try.underlying43 HI0.out HZ0.out HZ1.out HZ2.out (by rfl) (by omega) (.slice (some ⟨g7, 0, none⟩) (k + 1) c7) (k + 1) (keys (L' ++ [(y1, y2)])) (by rfl) (HR2.out.r7.alloc _) ⟨w2.heap.size, 0, none⟩ 1 1 [.int .i64 ((x1, y2) : It).2] (by rfl) (by rfl) (by exact World.news_of_block (heap_alloc_new _ _)) (by simp [Value.oneCell']) (by omega) (by unfold maxLen; omega) (by omega) (by have := HR2.out.own.size; simp; omega) (w2.heap.size + 1) (by simp) ?_); intro g9 c9 w3 hown9 hgrow9 hat9 hlt9; have HR3 : Hid (Rise _ _ w3 _ _ _ _ _ _ _ (.slice (some ⟨g9, 0, none⟩) ((k + 1) + 1) c9) ((k + 1) + 1) (keys ((L' ++ [(y1, y2)]) ++ [((x1, y2) : It)]))) := Lib.hid (HR2.out.symm.app _ hgrow9 (by rw [← keys_snoc]; exact hown9) rfl hat9).symm; clear tok2 _t hown9 hgrow9 hat9 hlt9))
                go_roundw
                case rel => exact ⟨_, _, k + 1 + 1, m, _, _, rfl, rfl, by go_num, by omega, HL1, HP1, HR3⟩
                case measure => simp [intOf]; omega
end Go.Proofs.Ytajlbiohaafpnaa.Qu
