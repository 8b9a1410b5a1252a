/-
  WALK of layer 9: together.
-/
import Derived.Test.YtnplhpbbdgnmiaaGreatDoorLz
import Derived.Deep.RegionHeld3
namespace Go.Proofs.YtnplhpbbdgnmiaaGreatDoor.Ln
open Go.RowKit
open Mem Go.Lib

/-- What the words say: the operation and its operands; none: they are not as its shape tells. -/
noncomputable def tgO (ws : List ByteArray) : Option (Int × Q) :=
  match ws with
  | [] => none
  | w :: ws => if By.ownV (By.fnV w.data.toList) = false then none else (rdL 0 (By.shV (By.fnV w.data.toList)).data.toList ws (0, 0, 0, 0)).map fun q => (By.fnV w.data.toList, q)

theorem parV_tg (s : ByteArray) : parV s = match tgO (wordsL s) with | none => (zeroI, 3) | some (o, q) => if By.chV o q.1 q.2.1 q.2.2.1 q.2.2.2 ≠ 0 then (zeroI, By.chV o q.1 q.2.1 q.2.2.1 q.2.2.2) else (insQ o q, 0) := by
  unfold parV tgO
  cases wordsL s with
  | nil => rfl
  | cons w ws =>
    simp only
    by_cases h : By.ownV (By.fnV w.data.toList) = false
    · rw [if_pos h, if_pos h]
    · rw [if_neg h, if_neg h]
      cases rdL 0 (By.shV (By.fnV w.data.toList)).data.toList ws (0, 0, 0, 0) with
      | none => rfl
      | some q => rfl

def TgAns (ws : List ByteArray) (w : World) (e : Ending) (w' : World) : Prop :=
  ∃ (o : Int) (q : Q) (ok : Bool), e = .returned (.tuple #[.agg (insQ o q), .bool ok]) ∧ (ok = true → tgO ws = some (o, q)) ∧ (ok = false → tgO ws = none) ∧ Below w.heap.size w w'

theorem five_blk {w : World} {g : Nat} {t : TypeId} {a b c d e : Value} (h : Blk w g t #[a, b, c, d, e]) (a' b' c' d' e' : Value) : Blk (((((w.setCell ⟨g, 0, none⟩ a').setCell ⟨g, 1, none⟩ b').setCell ⟨g, 2, none⟩ c').setCell ⟨g, 3, none⟩ d').setCell ⟨g, 4, none⟩ e') g t #[a', b', c', d', e'] := by
  have h1 := ((((h.stored 0 a').stored 1 b').stored 2 c').stored 3 d').stored 4 e'
  simpa using h1

theorem five_below {w0 w : World} {B g : Nat} (h : Below B w0 w) (hg : B ≤ g) (a b c d e : Value) : Below B w0 (((((w.setCell ⟨g, 0, none⟩ a).setCell ⟨g, 1, none⟩ b).setCell ⟨g, 2, none⟩ c).setCell ⟨g, 3, none⟩ d).setCell ⟨g, 4, none⟩ e) :=
  ((((h.setCell hg a).setCell hg b).setCell hg c).setCell hg d).setCell hg e
theorem set_other {w : World} {g G i : Nat} {o : Obj} (h : w.heap[g]? = some o) (hne : g ≠ G) (u : Value) : (w.setCell ⟨G, i, none⟩ u).heap[g]? = some o := by
  simp only [World.setCell, Array.getElem?_modify]
  rw [if_neg (fun e => hne e.symm)]; exact h
theorem five_other {w : World} {g G : Nat} {o : Obj} (h : w.heap[g]? = some o) (hne : g ≠ G) (a b c d e : Value) : (((((w.setCell ⟨G, 0, none⟩ a).setCell ⟨G, 1, none⟩ b).setCell ⟨G, 2, none⟩ c).setCell ⟨G, 3, none⟩ d).setCell ⟨G, 4, none⟩ e).heap[g]? = some o :=
  set_other (set_other (set_other (set_other (set_other h hne a) hne b) hne c) hne d) hne e

/-- The list without its first. -/
theorem slv_tail {w : World} {B n c : Nat} {ad : Addr} {x : ByteArray} {l : List ByteArray} (hn : (x :: l).length = n) (h : SlV w B (.slice (some ad) n c) (strs (x :: l))) : SlV w B (.slice (some (if c = 1 then ad else ad.add 1)) (n - 1) (c - 1)) (strs l) ∧ 1 ≤ n ∧ n ≤ c ∧ c ≤ maxLen := by
  rcases h.inv with ⟨h0, _⟩ | ⟨ad', e, h1, h2, h3, hr⟩
  · cases h0
  · injection e with e; subst e
    have hl : (strs l).length = n - 1 := by rw [strs_length]; simp at hn; omega
    have hn1 : 1 ≤ n := by simp at hn; omega
    refine ⟨?_, hn1, h2, h3⟩
    rw [← hl]
    by_cases hc : c = 1
    · rw [if_pos hc]
      have hl0 : strs l = [] := List.eq_nil_of_length_eq_zero (by omega)
      rw [hl0]
      exact .at_ _ _ _ (by simp) (by omega) (fun j u hu => by simp at hu)
    · rw [if_neg hc]
      exact .at_ _ _ _ (by omega) (by omega) (hr.drop 1)

theorem slv_first {w : World} {B n c : Nat} {A : Option Addr} {l : List ByteArray} {x : ByteArray} (hn : (x :: l).length = n) (h : SlV w B (.slice A n c) (strs (x :: l))) : ∃ ad, A = some ad ∧ w.cell? ad = some (.string x) := by
  obtain ⟨ad, y, e, h1, h2⟩ := slv_cells (j := 0) hn h (by simp at hn; omega)
  refine ⟨ad, e, ?_⟩
  have : y = x := by simpa using h1.symm
  subst this
  rwa [show ad.add 0 = ad by simp [Addr.add]] at h2

theorem slv_hsl (ad : Addr) (M c : Nat) (hM : M + 1 ≤ c) (hc : c ≤ maxLen) (X : World) : (Instr.sliceAt 22 (.slice (some ad) (M + 1) c) (some (.int .i64 1)) none none).run Tryz.prog X = .ok (.slice (some (if c = 1 then ad else ad.add 1)) M (c - 1)) X := by
  have hs2 : (sizeOf (Tryz.prog.elem 22)).run Tryz.prog X = .ok 1 X := by kernel_rfl
  have h1 := run_sliceAt_slice (P := Tryz.prog) (w := X) 22 (.slice (some ad) (M + 1) c) (some (.int .i64 1)) none none (by kernel_rfl)
  have h2 := run_slice_l (P := Tryz.prog) (w := X) 22 (some ad) (M + 1) c (by kernel_rfl) .i64 1 (by omega) (by omega)
  rw [h1, h2, hs2]
  by_cases hc1 : c = 1
  · subst hc1; rfl
  · have h3 : ¬ c = (1 : Int).toNat := hc1
    show Result.ok (sliced (some ad) (1 : Int).toNat (M + 1) c 1) X = _
    unfold sliced
    rw [if_neg h3, if_neg hc1]
    rfl

set_option linter.unusedSimpArgs false in
set_option maxRecDepth 100000 in
set_option maxHeartbeats 4000000 in
theorem together_any (A : Option Addr) (c n : Nat) (ws : List ByteArray) (w : World) (hn : ws.length = n) (h : SlV w w.heap.size (.slice A n c) (strs ws)) (hs : ∀ x ∈ ws, x.size ≤ 1000000) (he : Er w) (ht : Tb w) (hx : By.Txs w) (hy : Si.Txs w) :
    Calls Tryz.prog 41 #[.slice A n c] w (TgAns ws w) := by
  cases ws with
  | nil =>
    have hn0 : n = 0 := by simpa using hn.symm
    subst hn0
    clear h hs he ht hx hy hn
    go_enter Tryz.func41, Tryz.ntmps41
    go_wp2_with fail
    refine bodyPost_ret (v := .tuple #[.agg (insQ 0 (0, 0, 0, 0)), .bool false]) ?_ rfl ⟨0, (0, 0, 0, 0), false, rfl, fun h => (by cases h), fun _ => rfl, ?_⟩
    · simp [insQ, By.insC, results, Tryz.results41, go_sem]
    · exact (Below.refl _ _).alloc (Nat.le_refl _) _
  | cons x l =>
    obtain ⟨M, rfl⟩ : ∃ M, n = M + 1 := ⟨n - 1, by simp at hn; omega⟩
    obtain ⟨ad, rfl, hc0⟩ := slv_first hn h
    obtain ⟨ht1, _, hnc, hcm⟩ := slv_tail hn h
    have hsl := slv_hsl ad M c hnc hcm
    obtain ⟨Z, hZ⟩ : ∃ Z, (if c = 1 then ad else ad.add 1) = Z := ⟨_, rfl⟩
    rw [hZ] at hsl ht1
    have HT1 := Lib.hid ht1
    have HX := Lib.hid hx
    have HY := Lib.hid hy
    have HE := Lib.hid he
    have HT := Lib.hid ht
    have HS := Lib.hid hs
    have HN := Lib.hid (show l.length = M by simpa using hn)
    have HFN := Lib.hid (fun W h => By.find_any x W h)
    obtain ⟨o, ho⟩ : ∃ o, By.fnV x.data.toList = o := ⟨_, rfl⟩
    rw [ho] at HFN
    have HO := Lib.hid ho
    have hn0 : ((M : Int) + 1 == 0) = false := by simp; omega
    have hnp : (0 : Int) < (M : Int) + 1 := by omega
    obtain ⟨W0, hW0⟩ : ∃ W0, w.alloc (.cells #[.int .i64 0, .int .i64 0, .int .i64 0, .int .i64 0, .int .i64 0] 34) = W0 := ⟨_, rfl⟩
    have B0 := Lib.hid (show Below w.heap.size w W0 by rw [← hW0]; exact (Below.refl _ _).alloc (Nat.le_refl _) _)
    have K0 := Lib.hid (show Blk W0 w.heap.size 34 #[.int .i64 0, .int .i64 0, .int .i64 0, .int .i64 0, .int .i64 0] by rw [← hW0]; exact Blk.new _ _ _)
    have hz0 : W0.heap.size = w.heap.size + 1 := by rw [← hW0]; simp
    have HZ0 := Lib.hid hz0
    have hc1 : W0.cell? ad = some (.string x) := (B0.out.cell (World.block_lt_of_cell? w _ hc0)).trans hc0
    have HXW := Lib.hid (HX.out.below B0.out)
    clear h hs he ht hx hy hn ho ht1 hZ hnc hcm hc0
    go_enter Tryz.func41, Tryz.ntmps41
    go_wp2_with fail
    have h00 : W0.drew.cell? ad = some (.string x) := hc1
    refine wp_region_noPanic ?_
    refine (fun (key : ?G) => ?main) ?pf
    case main =>
      go_region_held3 (fun w' => w'.cell? ad = some (.string x)) (first | go_keep | assumption)
      (first
      | (go_at_call 59; refine (HFN.out _ (by first | exact HXW.out.below (Below.refl _ _).drew | exact (HXW.out.below (Below.refl _ _).drew).below ((Below.refl _ _).alloc (Nat.le_refl _) _))).mono ?_; rintro e w1 ⟨rfl, rfl⟩))
      all_goals exact key
    case pf =>
      refine NoPanic.normal ?_
      obtain ⟨w1, hw1⟩ : ∃ w1, (W0.alloc (.cells #[.int .i64 o, .int .i64 0, .int .i64 0, .int .i64 0, .int .i64 0] 34)).drew = w1 := ⟨_, rfl⟩
      have K1 := Lib.hid (show Blk w1 (w.heap.size + 1) 34 (insQ o (0, 0, 0, 0)) by rw [← hw1]; exact By.Blk.at_ _ _ (by simp [hz0]))
      have R1 := Lib.hid (show Blk w1 w.heap.size 34 #[.int .i64 0, .int .i64 0, .int .i64 0, .int .i64 0, .int .i64 0] by rw [← hw1]; exact Blk.alloc (w := W0) K0.out _)
      have B1 := Lib.hid (show Below w.heap.size w w1 by rw [← hw1]; exact (B0.out.alloc (by omega) _).drew)
      have S1 := Lib.hid (show w1.heap.size = w.heap.size + 2 by rw [← hw1]; simp [hz0])
      rw [hw1]
      clear hw1 hW0 hc1 h00 HXW B0 K0 hsl
      have k0 : w1.cell? ⟨w.heap.size + 1, 0, none⟩ = some (.int .i64 o) := by rw [K1.out.cell]; rfl
      have r0 : w1.cell? ⟨w.heap.size, 0, none⟩ = some (.int .i64 0) := by rw [R1.out.cell]; rfl
      have r1 : w1.cell? ⟨w.heap.size, 1, none⟩ = some (.int .i64 0) := by rw [R1.out.cell]; rfl
      have r2 : w1.cell? ⟨w.heap.size, 2, none⟩ = some (.int .i64 0) := by rw [R1.out.cell]; rfl
      have r3 : w1.cell? ⟨w.heap.size, 3, none⟩ = some (.int .i64 0) := by rw [R1.out.cell]; rfl
      have r4 : w1.cell? ⟨w.heap.size, 4, none⟩ = some (.int .i64 0) := by rw [R1.out.cell]; rfl
      have t0 : w1.frozen? ⟨w.heap.size, 0, none⟩ = false := R1.out.frozen 0
      have t1 : w1.frozen? ⟨w.heap.size, 1, none⟩ = false := R1.out.frozen 1
      have t2 : w1.frozen? ⟨w.heap.size, 2, none⟩ = false := R1.out.frozen 2
      have t3 : w1.frozen? ⟨w.heap.size, 3, none⟩ = false := R1.out.frozen 3
      have t4 : w1.frozen? ⟨w.heap.size, 4, none⟩ = false := R1.out.frozen 4
      have hl1 : w.heap.size < w1.heap.size := R1.out.lt
      have HOW := Lib.hid (By.own_any o)
      obtain ⟨ow, how⟩ : ∃ ow, By.ownV o = ow := ⟨_, rfl⟩
      rw [how] at HOW
      have HTG := Lib.hid (show tgO (x :: l) = if ow = false then none else (rdL 0 (By.shV o).data.toList l (0, 0, 0, 0)).map fun q => (o, q) by rw [← how, ← HO.out]; rfl)
      clear how hz0
      go_wp2_with fail
      refine (HOW.out _).mono ?_
      rintro e w2 ⟨rfl, rfl⟩
      cases ow with
      | false =>
        go_wp2_with fail
        refine bodyPost_ret (v := .tuple #[.agg (insQ 0 (0, 0, 0, 0)), .bool false]) ?_ rfl ⟨0, (0, 0, 0, 0), false, rfl, fun h => (by cases h), fun _ => HTG.out, ?_⟩
        · simp [insQ, By.insC, results, Tryz.results41, go_sem, r0, r1, r2, r3, r4]
        · exact five_below B1.out (Nat.le_refl _) _ _ _ _ _
      | true =>
        have HSH := Lib.hid (By.shape_any o w1 (HX.out.below B1.out))
        have HTG2 := Lib.hid (show tgO (x :: l) = (rdL 0 (By.shV o).data.toList l (0, 0, 0, 0)).map fun q => (o, q) from HTG.out)
        clear r0 r1 r2 r3 r4 t0 t1 t2 t3 t4 HTG
        go_wp2_with fail
        refine HSH.out.mono ?_
        rintro e w2 ⟨rfl, rfl⟩
        clear HSH
        obtain ⟨hs4, _⟩ := shape_facts o
        have HSA := Lib.hid (shape_ascii o)
        have HS4 := Lib.hid hs4
        obtain ⟨sh, hsh⟩ : ∃ sh, By.shV o = sh := ⟨_, rfl⟩
        rw [hsh] at HS4 HSA HTG2
        rw [hsh]
        clear hsh hs4 k0
        have HM0 := Lib.hid (RSt.start sh.data.toList l)
        have HSL0 := Lib.hid (show SlV w1 w.heap.size (.slice (some Z) M (c - 1)) (strs l) from by have := HT1.out; exact this.below B1.out)
        have hS1 := S1.out
        go_wp2_with fail
        go_loopw [0] (fun v wr => ∃ (pos m : Nat) (A : Option Addr) (c' : Nat) (q : Q), pos ≤ sh.size ∧ v = .slice A (l.length - m) c' ∧ wr.heap[(w.heap.size + 2)]? = some (.stringIter sh pos) ∧ Hid (Below w.heap.size w wr) ∧ Hid (Blk wr (w.heap.size + 1) 34 (insQ o q)) ∧ Hid (Blk wr w.heap.size 34 #[.int .i64 0, .int .i64 0, .int .i64 0, .int .i64 0, .int .i64 0]) ∧ Hid (SlV wr w.heap.size (.slice A (l.length - m) c') (strs (l.drop m))) ∧ Hid (RSt sh.data.toList l pos m q)) (fun _ wr => sh.size - wr.iterPos (w.heap.size + 2))
        case atStart => exact ⟨0, 0, some Z, c - 1, (0, 0, 0, 0), by omega, by rw [HN.out]; rfl, by have h := World.iter_heap w1 sh 0; rwa [hS1] at h, Lib.hid (B1.out.alloc B1.out.size _), Lib.hid (K1.out.alloc _), Lib.hid (R1.out.alloc _), Lib.hid (by rw [HN.out]; exact HSL0.out.below ((Below.refl _ w1).alloc (by omega) _)), HM0⟩
        case round =>
          obtain ⟨pos, m, A, c', q, hpos, rfl, hit, HB, HK, HR, HSL, HM⟩ := hrel
          have hpos0 := iterPos_of hit
          have hsx := HB.out.size
          have hitl : (w.heap.size + 2) < wr.heap.size := (Array.getElem?_eq_some_iff.1 hit).1
          by_cases hp : pos < sh.size
          · have hpl : pos < sh.data.toList.length := by rw [len_list]; exact hp
            have hgl : (sh[pos]'hp) = sh.data.toList[pos] := by simp [ByteArray.getElem_eq_getElem_data]
            have hx : (sh[pos]'hp).toNat < 128 := by rw [hgl]; exact HSA.out pos hpl
            have hnx : ∀ ty, (Instr.next (.pointer (some ⟨(w.heap.size + 2), 0, none⟩)) true ty).run Tryz.prog wr = _ := fun ty => Lib.run_next_ascii_at wr (w.heap.size + 2) sh pos ty hit hp hx
            have hit2 := Lib.iterAt_heap wr (w.heap.size + 2) sh pos (pos + 1) hit
            have HI := Lib.hid (Lib.below_iterAt (Below.refl (w.heap.size + 2) wr) (k := (w.heap.size + 2)) (by omega) sh (pos + 1))
            obtain ⟨W1, hW1⟩ : ∃ W1, wr.iterAt (w.heap.size + 2) sh (pos + 1) = W1 := ⟨_, rfl⟩
            rw [hW1] at hnx hit2 HI
            have HB2 := Lib.hid (HB.out.trans (HI.out.mono (by omega)))
            have HK2 := Lib.hid (HK.out.below HI.out (by omega))
            have HR2 := Lib.hid (HR.out.below HI.out (by omega))
            have HSL2 := Lib.hid (HSL.out.below (HI.out.mono (by omega)))
            have hpos2 := iterPos_of hit2
            have HX2 := Lib.hid (show sh.data.toList[pos]? = some (sh[pos]'hp) by rw [hgl]; exact List.getElem?_eq_getElem hpl)
            clear hit hW1 hgl hx HB HK HR HSL HI hitl hsx
            obtain ⟨x2, hxe⟩ : ∃ x2, (sh[pos]'hp) = x2 := ⟨_, rfl⟩
            rw [hxe] at hnx HX2
            clear hxe
            by_cases h45 : x2 = 45
            · subst h45
              have HM2 := Lib.hid (HM.out.skip HX2.out)
              have hnx2 := hnx
              clear HM HX2
              go_wp2_with fail
              go_roundw
              case rel => exact ⟨pos + 1, m, A, c', q, by omega, rfl, hit2, HB2, HK2, HR2, HSL2, HM2⟩
              case measure => rw [hpos2, hpos0]; omega
            · have hq : ((x2.toNat : Int) == 45) = false := eq_false fun e => h45 (UInt8.toNat_inj.1 (by have h2 : (45 : UInt8).toNat = 45 := rfl; omega))
              by_cases hml : l.length ≤ m
              · have HF := Lib.hid (show tgO (x :: l) = none by rw [HTG2.out, HM.out.few HX2.out h45 hml]; rfl)
                have hz : (l.length - m) = 0 := by omega
                have r0 : W1.cell? ⟨w.heap.size, 0, none⟩ = some (.int .i64 0) := by rw [HR2.out.cell]; rfl
                have r1 : W1.cell? ⟨w.heap.size, 1, none⟩ = some (.int .i64 0) := by rw [HR2.out.cell]; rfl
                have r2 : W1.cell? ⟨w.heap.size, 2, none⟩ = some (.int .i64 0) := by rw [HR2.out.cell]; rfl
                have r3 : W1.cell? ⟨w.heap.size, 3, none⟩ = some (.int .i64 0) := by rw [HR2.out.cell]; rfl
                have r4 : W1.cell? ⟨w.heap.size, 4, none⟩ = some (.int .i64 0) := by rw [HR2.out.cell]; rfl
                have t0 : W1.frozen? ⟨w.heap.size, 0, none⟩ = false := HR2.out.frozen 0
                have t1 : W1.frozen? ⟨w.heap.size, 1, none⟩ = false := HR2.out.frozen 1
                have t2 : W1.frozen? ⟨w.heap.size, 2, none⟩ = false := HR2.out.frozen 2
                have t3 : W1.frozen? ⟨w.heap.size, 3, none⟩ = false := HR2.out.frozen 3
                have t4 : W1.frozen? ⟨w.heap.size, 4, none⟩ = false := HR2.out.frozen 4
                have hl1 : w.heap.size < W1.heap.size := HR2.out.lt
                rw [hz]
                clear hz hit2
                go_wp2_with fail
                refine bodyPost_ret (v := .tuple #[.agg (insQ 0 (0, 0, 0, 0)), .bool false]) ?_ rfl ⟨0, (0, 0, 0, 0), false, rfl, fun h => (by cases h), fun _ => HF.out, ?_⟩
                · simp [insQ, By.insC, results, Tryz.results41, go_sem, r0, r1, r2, r3, r4]
                · exact five_below HB2.out (Nat.le_refl _) _ _ _ _ _
              · obtain ⟨y, l2, hyl⟩ : ∃ y l2, l.drop m = y :: l2 := ⟨_, _, List.drop_eq_getElem_cons (by omega)⟩
                have hyg : l[m]? = some y := by have h := congrArg (·[0]?) hyl; simpa using h
                have hl2 : l.drop (m + 1) = l2 := by rw [← List.drop_drop, hyl]; rfl
                obtain ⟨P, hP⟩ : ∃ P, l.length - m = P + 1 := ⟨l.length - m - 1, by omega⟩
                have hlP : (y :: l2).length = P + 1 := by rw [← hyl, List.length_drop]; exact hP
                have hsv := HSL2.out
                rw [hyl, hP] at hsv
                obtain ⟨ad2, rfl, hcy⟩ := slv_first hlP hsv
                obtain ⟨hst1, _, hnc, hcm⟩ := slv_tail hlP hsv
                have hsl := slv_hsl ad2 P c' hnc hcm
                obtain ⟨Z2, hZ2⟩ : ∃ Z2, (if c' = 1 then ad2 else ad2.add 1) = Z2 := ⟨_, rfl⟩
                rw [hZ2] at hsl hst1
                have hya : ad2.block < w.heap.size := by
                  rcases hsv.inv with ⟨h0, _⟩ | ⟨ad3, e, _, _, _, hr⟩
                  · cases h0
                  · injection e with e; subst e
                    exact (hr 0 (.string y) rfl).1
                have HST1 := Lib.hid hst1
                have HYA := Lib.hid hya
                have hn0 : ((P : Int) + 1 == 0) = false := by simp; omega
                have hnp : (0 : Int) < (P : Int) + 1 := by omega
                have HYS := Lib.hid (HS.out y (List.mem_cons_of_mem _ (List.mem_of_getElem? hyg)))
                obtain ⟨p, hp2⟩ : ∃ p, rdV ((x2.toNat : Nat) : Int) y = p := ⟨_, rfl⟩
                have HRD := Lib.hid (fun W h1 h2 h3 => by have h := read_any ((x2.toNat : Nat) : Int) y W HYS.out h1 h2 h3; rw [hp2] at h; exact h)
                have HP2 := Lib.hid hp2
                have HYG := Lib.hid hyg
                have HL2 := Lib.hid hl2
                have HPP := Lib.hid hP
                rw [hP]
                clear hp2 hyg hyl hl2 hlP hsv hZ2 hnc hcm hst1 HSL2 hP hml hya
                go_wp2_with fail
                refine (HRD.out W1 (HE.out.below HB2.out) (HT.out.below HB2.out) (HY.out.below HB2.out)).mono ?_
                rintro e W2 ⟨rfl, hb2⟩
                have hlt1 : (w.heap.size + 2) < W1.heap.size := (Array.getElem?_eq_some_iff.1 hit2).1
                have hit3 := (hb2.block _ hlt1).trans hit2
                have HB3 := Lib.hid (HB2.out.trans (hb2.mono (by omega)))
                have HK3 := Lib.hid (HK2.out.below hb2 (by omega))
                have HR3 := Lib.hid (HR2.out.below hb2 (by omega))
                have HST3 := Lib.hid (HST1.out.below (hb2.mono (by omega)))
                have hcy3 : W2.cell? ad2 = some (.string y) := (hb2.cell (Nat.lt_trans HYA.out (by omega))).trans hcy
                have hlt2 : (w.heap.size + 2) < W2.heap.size := (Array.getElem?_eq_some_iff.1 hit3).1
                clear hb2 hit2 HB2 HK2 HR2 HST1 hcy hlt1
                obtain ⟨v, bl⟩ := p
                cases bl with
                | false =>
                  have HF := Lib.hid (show tgO (x :: l) = none by rw [HTG2.out, HM.out.no HX2.out h45 HYG.out (by rw [HP2.out])]; rfl)
                  have r0 : W2.cell? ⟨w.heap.size, 0, none⟩ = some (.int .i64 0) := by rw [HR3.out.cell]; rfl
                  have r1 : W2.cell? ⟨w.heap.size, 1, none⟩ = some (.int .i64 0) := by rw [HR3.out.cell]; rfl
                  have r2 : W2.cell? ⟨w.heap.size, 2, none⟩ = some (.int .i64 0) := by rw [HR3.out.cell]; rfl
                  have r3 : W2.cell? ⟨w.heap.size, 3, none⟩ = some (.int .i64 0) := by rw [HR3.out.cell]; rfl
                  have r4 : W2.cell? ⟨w.heap.size, 4, none⟩ = some (.int .i64 0) := by rw [HR3.out.cell]; rfl
                  have t0 : W2.frozen? ⟨w.heap.size, 0, none⟩ = false := HR3.out.frozen 0
                  have t1 : W2.frozen? ⟨w.heap.size, 1, none⟩ = false := HR3.out.frozen 1
                  have t2 : W2.frozen? ⟨w.heap.size, 2, none⟩ = false := HR3.out.frozen 2
                  have t3 : W2.frozen? ⟨w.heap.size, 3, none⟩ = false := HR3.out.frozen 3
                  have t4 : W2.frozen? ⟨w.heap.size, 4, none⟩ = false := HR3.out.frozen 4
                  have hl1 : w.heap.size < W2.heap.size := HR3.out.lt
                  clear hit3 hcy3
                  go_wp2_with fail
                  refine bodyPost_ret (v := .tuple #[.agg (insQ 0 (0, 0, 0, 0)), .bool false]) ?_ rfl ⟨0, (0, 0, 0, 0), false, rfl, fun h => (by cases h), fun _ => HF.out, ?_⟩
                  · simp [insQ, By.insC, results, Tryz.results41, go_sem, r0, r1, r2, r3, r4]
                  · exact five_below HB3.out (Nat.le_refl _) _ _ _ _ _
                | true =>
                  have HM2 := Lib.hid (HM.out.put HX2.out h45 HYG.out (by rw [HP2.out]))
                  have hP2 := HP2.out
                  rw [hP2] at HM2
                  obtain ⟨a, b, c2, n2⟩ := q
                  obtain ⟨⟨a', b', c2', n2'⟩, hq'⟩ : ∃ q', putQ (a, b, c2, n2) pos v = q' := ⟨_, rfl⟩
                  have hW := By.with_any o a b c2 n2 (pos : Int) v
                  have hwp := with_put o (a, b, c2, n2) pos v
                  simp only at hwp
                  rw [hwp, hq'] at hW
                  have HW := Lib.hid (show ∀ W, Calls Tryz.prog 61 #[.agg #[.int .i64 o, .int .i64 a, .int .i64 b, .int .i64 c2, .int .i64 n2], .int .i64 (pos : Int), .int .i64 v] W fun e w' => e = .returned (.agg #[.int .i64 o, .int .i64 a', .int .i64 b', .int .i64 c2', .int .i64 n2']) ∧ Below W.heap.size W w' from hW)
                  rw [hq'] at HM2
                  have HSL3 := Lib.hid (show SlV W2 w.heap.size (.slice (some Z2) (l.length - (m + 1)) (c' - 1)) (strs (l.drop (m + 1))) from by have h := HST3.out; rw [HL2.out, show l.length - (m + 1) = P + 1 - 1 by have := HPP.out; omega]; exact h)
                  have hml2 : l.length - (m + 1) = P := by have := HPP.out; omega
                  clear hP2 hq' hwp hW HST3 HM HP2
                  have k0 : W2.cell? ⟨w.heap.size + 1, 0, none⟩ = some (.int .i64 o) := by rw [HK3.out.cell]; rfl
                  have k1 : W2.cell? ⟨w.heap.size + 1, 1, none⟩ = some (.int .i64 a) := by rw [HK3.out.cell]; rfl
                  have k2 : W2.cell? ⟨w.heap.size + 1, 2, none⟩ = some (.int .i64 b) := by rw [HK3.out.cell]; rfl
                  have k3 : W2.cell? ⟨w.heap.size + 1, 3, none⟩ = some (.int .i64 c2) := by rw [HK3.out.cell]; rfl
                  have k4 : W2.cell? ⟨w.heap.size + 1, 4, none⟩ = some (.int .i64 n2) := by rw [HK3.out.cell]; rfl
                  have f0 : W2.frozen? ⟨w.heap.size + 1, 0, none⟩ = false := HK3.out.frozen 0
                  have f1 : W2.frozen? ⟨w.heap.size + 1, 1, none⟩ = false := HK3.out.frozen 1
                  have f2 : W2.frozen? ⟨w.heap.size + 1, 2, none⟩ = false := HK3.out.frozen 2
                  have f3 : W2.frozen? ⟨w.heap.size + 1, 3, none⟩ = false := HK3.out.frozen 3
                  have f4 : W2.frozen? ⟨w.heap.size + 1, 4, none⟩ = false := HK3.out.frozen 4
                  have hk1 : w.heap.size + 1 < W2.heap.size := HK3.out.lt
                  go_wp2_with fail
                  refine wp_region_noPanic ?_
                  refine wp_region_held_drew (S := fun _ => True) (by kernel_rfl) (trivial) (fun hHeld => ?_)
                  refine wpAnyH_take (i := 1) rfl (by kernel_rfl) (by kernel_rfl) (by kernel_rfl) (fun _ _ _ h => h) (Or.inl ⟨by rfl, by intro W hSW; (try dsimp only at hSW); go_simp; try (with_reducible rfl)⟩) hHeld ?_
                  try simp only [Act.put, List.getElem_toArray, List.getElem_cons_zero, List.getElem_cons_succ, List.setIfInBounds_toArray, List.set_cons_zero, List.set_cons_succ]
                  refine wpAnyH_take (i := 2) rfl (by kernel_rfl) (by kernel_rfl) (by kernel_rfl) (fun _ _ _ h => h) (Or.inl ⟨by rfl, by intro W hSW; (try dsimp only at hSW); go_simp; try (with_reducible rfl)⟩) hHeld ?_
                  try simp only [Act.put, List.getElem_toArray, List.getElem_cons_zero, List.getElem_cons_succ, List.setIfInBounds_toArray, List.set_cons_zero, List.set_cons_succ]
                  refine wpAnyH_take (i := 4) rfl (by kernel_rfl) (by kernel_rfl) (by kernel_rfl) (fun _ _ _ h => h) (Or.inl ⟨by rfl, by intro W hSW; (try dsimp only at hSW); go_simp; try (with_reducible rfl)⟩) hHeld ?_
                  try simp only [Act.put, List.getElem_toArray, List.getElem_cons_zero, List.getElem_cons_succ, List.setIfInBounds_toArray, List.set_cons_zero, List.set_cons_succ]
                  refine wpAnyH_take (i := 5) rfl (by kernel_rfl) (by kernel_rfl) (by kernel_rfl) (fun _ _ _ h => h) (Or.inl ⟨by rfl, by intro W hSW; (try dsimp only at hSW); go_simp; try (with_reducible rfl)⟩) hHeld ?_
                  try simp only [Act.put, List.getElem_toArray, List.getElem_cons_zero, List.getElem_cons_succ, List.setIfInBounds_toArray, List.set_cons_zero, List.set_cons_succ]
                  refine wpAnyH_ready (rs := [0]) (by kernel_rfl) (by simp) ?_
                  refine AllReadyH.cons rfl (fun K hK => ?_) AllReadyH.nil
                  go_simp
                  refine hK.out _ _ (hHeld) ?_
                  clear hK K hHeld
                  intro hHeld
                  try simp only [Act.put, List.getElem_toArray, List.getElem_cons_zero, List.getElem_cons_succ, List.setIfInBounds_toArray, List.set_cons_zero, List.set_cons_succ]
                  refine wpAnyH_ready (rs := [3]) (by kernel_rfl) (by simp) ?_
                  refine AllReadyH.cons rfl (fun K hK => ?_) AllReadyH.nil
                  go_simp
                  refine (HW.out _).mono ?_; rintro e W3 ⟨rfl, hb3⟩
                  try go_wp2_with fail
                  refine hK.out _ _ (trivial) ?_
                  clear hK K hHeld
                  intro hHeld
                  try simp only [Act.put, List.getElem_toArray, List.getElem_cons_zero, List.getElem_cons_succ, List.setIfInBounds_toArray, List.set_cons_zero, List.set_cons_succ]
                  have hb4 : Below W2.heap.size W2 W3 := (Below.refl W2.heap.size W2).drew.trans hb3
                  have KD := Lib.hid (HK3.out.below hb4 hk1)
                  have hk2 : w.heap.size + 1 < W3.heap.size := KD.out.lt
                  have e0 : W3.cell? ⟨w.heap.size + 1, 0, none⟩ = some (.int .i64 o) := by rw [KD.out.cell]; rfl
                  have e1 : W3.cell? ⟨w.heap.size + 1, 1, none⟩ = some (.int .i64 a) := by rw [KD.out.cell]; rfl
                  have e2 : W3.cell? ⟨w.heap.size + 1, 2, none⟩ = some (.int .i64 b) := by rw [KD.out.cell]; rfl
                  have e3 : W3.cell? ⟨w.heap.size + 1, 3, none⟩ = some (.int .i64 c2) := by rw [KD.out.cell]; rfl
                  have e4 : W3.cell? ⟨w.heap.size + 1, 4, none⟩ = some (.int .i64 n2) := by rw [KD.out.cell]; rfl
                  have g0 : W3.frozen? ⟨w.heap.size + 1, 0, none⟩ = false := KD.out.frozen 0
                  have g1 : W3.frozen? ⟨w.heap.size + 1, 1, none⟩ = false := KD.out.frozen 1
                  have g2 : W3.frozen? ⟨w.heap.size + 1, 2, none⟩ = false := KD.out.frozen 2
                  have g3 : W3.frozen? ⟨w.heap.size + 1, 3, none⟩ = false := KD.out.frozen 3
                  have g4 : W3.frozen? ⟨w.heap.size + 1, 4, none⟩ = false := KD.out.frozen 4
                  refine wpAnyH_ready (rs := [6]) (by kernel_rfl) (by simp) ?_
                  refine AllReadyH.cons rfl (fun K hK => ?_) AllReadyH.nil
                  go_simp
                  refine hK.out _ _ (hHeld) ?_
                  clear hK K hHeld
                  intro hHeld
                  try simp only [Act.put, List.getElem_toArray, List.getElem_cons_zero, List.getElem_cons_succ, List.setIfInBounds_toArray, List.set_cons_zero, List.set_cons_succ]
                  refine wpAnyH_take (i := 7) rfl (by kernel_rfl) (by kernel_rfl) (by kernel_rfl) (fun _ _ _ h => h) (Or.inl ⟨by rfl, by intro W hSW; (try dsimp only at hSW); go_simp; try (with_reducible rfl)⟩) hHeld ?_
                  try simp only [Act.put, List.getElem_toArray, List.getElem_cons_zero, List.getElem_cons_succ, List.setIfInBounds_toArray, List.set_cons_zero, List.set_cons_succ]
                  refine wpAnyH_done (by kernel_rfl) ?_ _
                  refine NoPanic.normal ?_
                  have hit4 := (hb4.block _ hlt2).trans hit3
                  have K4 := Lib.hid (five_blk KD.out (.int .i64 o) (.int .i64 a') (.int .i64 b') (.int .i64 c2') (.int .i64 n2'))
                  have R4 := Lib.hid (show Blk _ w.heap.size 34 _ from five_other (G := w.heap.size + 1) (HR3.out.below hb4 (by omega)) (by omega) (.int .i64 o) (.int .i64 a') (.int .i64 b') (.int .i64 c2') (.int .i64 n2'))
                  have I4 := five_other (G := w.heap.size + 1) hit4 (by omega) (.int .i64 o) (.int .i64 a') (.int .i64 b') (.int .i64 c2') (.int .i64 n2')
                  have B4 := Lib.hid (five_below (HB3.out.trans (hb4.mono (by omega))) (by omega : w.heap.size ≤ w.heap.size + 1) (.int .i64 o) (.int .i64 a') (.int .i64 b') (.int .i64 c2') (.int .i64 n2'))
                  have S4 := Lib.hid (HSL3.out.below (five_below (hb4.mono (by omega)) (by omega : w.heap.size ≤ w.heap.size + 1) (.int .i64 o) (.int .i64 a') (.int .i64 b') (.int .i64 c2') (.int .i64 n2')))
                  clear hit4 hit3 hb4 hb3
                  generalize (((((W3.setCell ⟨w.heap.size + 1, 0, none⟩ (.int .i64 o)).setCell ⟨w.heap.size + 1, 1, none⟩ (.int .i64 a')).setCell ⟨w.heap.size + 1, 2, none⟩ (.int .i64 b')).setCell ⟨w.heap.size + 1, 3, none⟩ (.int .i64 c2')).setCell ⟨w.heap.size + 1, 4, none⟩ (.int .i64 n2')) = W4 at K4 R4 I4 B4 S4 ⊢
                  have hpos4 := iterPos_of I4
                  go_wp2_with fail
                  go_roundw
                  case rel => exact ⟨pos + 1, m + 1, some Z2, c' - 1, (a', b', c2', n2'), by omega, by rw [hml2], I4, B4, K4, R4, S4, HM2⟩
                  case measure => rw [hpos4, hpos0]; omega
          · have hnx : ∀ ty, (Instr.next (.pointer (some ⟨(w.heap.size + 2), 0, none⟩)) true ty).run Tryz.prog wr = _ := fun ty => Lib.run_next_end_at wr (w.heap.size + 2) sh pos ty hit hp
            have hpl : sh.data.toList.length ≤ pos := by rw [len_list]; omega
            obtain ⟨a, b, c2, n2⟩ := q
            obtain ⟨Rn, hR⟩ : ∃ Rn, l.length - m = Rn := ⟨_, rfl⟩
            rw [hR]
            have hml := HM.out.2.2
            have r0 : wr.cell? ⟨w.heap.size, 0, none⟩ = some (.int .i64 0) := by rw [HR.out.cell]; rfl
            have r1 : wr.cell? ⟨w.heap.size, 1, none⟩ = some (.int .i64 0) := by rw [HR.out.cell]; rfl
            have r2 : wr.cell? ⟨w.heap.size, 2, none⟩ = some (.int .i64 0) := by rw [HR.out.cell]; rfl
            have r3 : wr.cell? ⟨w.heap.size, 3, none⟩ = some (.int .i64 0) := by rw [HR.out.cell]; rfl
            have r4 : wr.cell? ⟨w.heap.size, 4, none⟩ = some (.int .i64 0) := by rw [HR.out.cell]; rfl
            have t0 : wr.frozen? ⟨w.heap.size, 0, none⟩ = false := HR.out.frozen 0
            have t1 : wr.frozen? ⟨w.heap.size, 1, none⟩ = false := HR.out.frozen 1
            have t2 : wr.frozen? ⟨w.heap.size, 2, none⟩ = false := HR.out.frozen 2
            have t3 : wr.frozen? ⟨w.heap.size, 3, none⟩ = false := HR.out.frozen 3
            have t4 : wr.frozen? ⟨w.heap.size, 4, none⟩ = false := HR.out.frozen 4
            have hl1 : w.heap.size < wr.heap.size := HR.out.lt
            have k0 : wr.cell? ⟨w.heap.size + 1, 0, none⟩ = some (.int .i64 o) := by rw [HK.out.cell]; rfl
            have k1 : wr.cell? ⟨w.heap.size + 1, 1, none⟩ = some (.int .i64 a) := by rw [HK.out.cell]; rfl
            have k2 : wr.cell? ⟨w.heap.size + 1, 2, none⟩ = some (.int .i64 b) := by rw [HK.out.cell]; rfl
            have k3 : wr.cell? ⟨w.heap.size + 1, 3, none⟩ = some (.int .i64 c2) := by rw [HK.out.cell]; rfl
            have k4 : wr.cell? ⟨w.heap.size + 1, 4, none⟩ = some (.int .i64 n2) := by rw [HK.out.cell]; rfl
            clear hit
            by_cases hz : Rn = 0
            · have HF := Lib.hid (show tgO (x :: l) = some (o, (a, b, c2, n2)) by rw [HTG2.out, HM.out.done hpl (by omega)]; rfl)
              subst hz
              clear hR hml
              go_wp2_with fail
              refine bodyPost_ret (v := .tuple #[.agg (insQ o (a, b, c2, n2)), .bool true]) ?_ rfl ⟨o, (a, b, c2, n2), true, rfl, fun _ => HF.out, fun h => (by cases h), ?_⟩
              · simp [insQ, By.insC, results, Tryz.results41, go_sem, r0, r1, r2, r3, r4]
              · exact five_below HB.out (Nat.le_refl _) _ _ _ _ _
            · have HF := Lib.hid (show tgO (x :: l) = none by rw [HTG2.out, HM.out.more hpl (by omega)]; rfl)
              have hz2 : ((Rn : Int) == 0) = false := by simpa using hz
              clear hR hml
              go_wp2_with fail
              refine bodyPost_ret (v := .tuple #[.agg (insQ o (a, b, c2, n2)), .bool false]) ?_ rfl ⟨o, (a, b, c2, n2), false, rfl, fun h => (by cases h), fun _ => HF.out, ?_⟩
              · simp [insQ, By.insC, results, Tryz.results41, go_sem, r0, r1, r2, r3, r4]
              · exact five_below HB.out (Nat.le_refl _) _ _ _ _ _
end Go.Proofs.YtnplhpbbdgnmiaaGreatDoor.Ln
