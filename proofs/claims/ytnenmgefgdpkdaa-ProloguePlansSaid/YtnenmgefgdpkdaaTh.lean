/-
  WALKS of layer 28: Full and Lean: the program's.
-/
import Derived.Test.YtnenmgefgdpkdaaTg
namespace Go.Proofs.Ytnenmgefgdpkdaa.Bo
open Go.RowKit Go.Maps
open Mem Rf
set_option linter.unusedSimpArgs false
set_option linter.unusedVariables false

/-- A row of which the first k cells are laid. -/
def arrB (n k : Nat) (f : Nat → Bool) : Array Value := ((List.range n).map fun i => Value.bool (if i < k then f i else false)).toArray
def arrI (n k : Nat) (f : Nat → Int) : Array Value := ((List.range n).map fun i => Value.int .i64 (if i < k then f i else 0)).toArray
theorem arrB_zero (n : Nat) (f : Nat → Bool) : arrB n 0 f = Array.replicate n (.bool false) := by
  apply Array.ext
  · simp [arrB]
  · intro i h1 h2; simp [arrB]
theorem arrI_zero (n : Nat) (f : Nat → Int) : arrI n 0 f = Array.replicate n (.int .i64 0) := by
  apply Array.ext
  · simp [arrI]
  · intro i h1 h2; simp [arrI]
theorem arrB_set {n k : Nat} (f : Nat → Bool) (hk : k < n) : (arrB n k f).setIfInBounds k (.bool (f k)) = arrB n (k + 1) f := by
  apply Array.ext
  · simp [arrB]
  · intro i h1 h2
    have hi : i < n := by simpa [arrB] using h2
    rw [Array.getElem_setIfInBounds (by simpa [arrB] using hi)]
    by_cases e : k = i
    · subst e; simp [arrB]
    · rw [if_neg e]
      have : (i < k + 1) ↔ (i < k) := by omega
      simp [arrB, this]
theorem arrI_set {n k : Nat} (f : Nat → Int) (hk : k < n) : (arrI n k f).setIfInBounds k (.int .i64 (f k)) = arrI n (k + 1) f := by
  apply Array.ext
  · simp [arrI]
  · intro i h1 h2
    have hi : i < n := by simpa [arrI] using h2
    rw [Array.getElem_setIfInBounds (by simpa [arrI] using hi)]
    by_cases e : k = i
    · subst e; simp [arrI]
    · rw [if_neg e]
      have : (i < k + 1) ↔ (i < k) := by omega
      simp [arrI, this]
theorem arrI_same {n k : Nat} (f : Nat → Int) (h : f k = 0) : arrI n k f = arrI n (k + 1) f := by
  apply Array.ext
  · simp [arrI]
  · intro i h1 h2
    by_cases e : i = k
    · subst e; simp [arrI, h]
    · have : (i < k + 1) ↔ (i < k) := by omega
      simp [arrI, this]
theorem arrB_at {n k : Nat} (f : Nat → Bool) (hk : k < n) : (arrB n k f)[k]? = some (.bool false) := by simp [arrB, hk]
theorem arrI_at {n k : Nat} (f : Nat → Int) (hk : k < n) : (arrI n k f)[k]? = some (.int .i64 0) := by simp [arrI, hk]
theorem arrB_end (n : Nat) (f : Nat → Bool) : arrB n n f = (((List.range n).map f).flatMap encB).toArray := by
  unfold arrB
  congr 1
  have : ((List.range n).map f).flatMap encB = ((List.range n).map f).map Value.bool := by
    induction ((List.range n).map f) with
    | nil => rfl
    | cons a l ih => rw [List.flatMap_cons, ih]; rfl
  rw [this, List.map_map]
  exact List.map_congr_left fun i hi => by rw [List.mem_range] at hi; simp [hi]
theorem arrI_end (n : Nat) (f : Nat → Int) : arrI n n f = (((List.range n).map f).flatMap encI).toArray := by
  unfold arrI
  congr 1
  have : ((List.range n).map f).flatMap encI = ((List.range n).map f).map (Value.int .i64) := by
    induction ((List.range n).map f) with
    | nil => rfl
    | cons a l ih => rw [List.flatMap_cons, ih]; rfl
  rw [this, List.map_map]
  exact List.map_congr_left fun i hi => by rw [List.mem_range] at hi; simp [hi]
/-- A plan of so many functions. -/
def plA (w : World) (n : Nat) (f : Nat → Bool) (g : Nat → Int) (e : Ending) (w' : World) : Prop := ∃ p : Pn, e = .returned (pnV p) ∧ PnR w' p ∧ p.ks = (List.range n).map f ∧ p.cs = (List.range n).map g ∧ Below w.heap.size w w'
theorem plA_of {w W : World} {n b1 b2 : Nat} {f : Nat → Bool} {g : Nat → Int} (hn : n ≤ 1000) (h1 : Blk W b1 4 (arrB n n f)) (h2 : Blk W b2 3 (arrI n n g)) (hb : Below w.heap.size w W) :
    plA w n f g (.returned (.agg #[.slice (some ⟨b1, 0, none⟩) n n, .slice (some ⟨b2, 0, none⟩) n n])) W := by
  have k1 := wd_blk (k := 1) (enc := encB) (l := (List.range n).map f) h1 encB_len (arrB_end n f) (by simp; unfold maxLen; omega)
  have k2 := wd_blk (k := 1) (enc := encI) (l := (List.range n).map g) h2 encI_len (arrI_end n g) (by simp; unfold maxLen; omega)
  rw [List.length_map, List.length_range] at k1 k2
  exact ⟨⟨_, _, _, _, _, _, _, _⟩, rfl, ⟨k1, k2⟩, rfl, rfl, hb⟩
/-- What stands while a plan is filled. -/
structure Fil (w wr : World) (PC : Array Value) (PB b1 b2 n k : Nat) (f : Nat → Bool) (g : Nat → Int) : Prop where
  low : Below w.heap.size w wr
  prog : Blk wr w.heap.size 34 PC
  res : Blk wr (w.heap.size + 1) 29 #[.slice none 0 0, .slice none 0 0]
  box : Blk wr PB 29 #[.slice (some ⟨b1, 0, none⟩) n n, .slice (some ⟨b2, 0, none⟩) n n]
  r1 : Blk wr b1 4 (arrB n k f)
  r2 : Blk wr b2 3 (arrI n k g)
  ne : b1 ≠ b2 ∧ PB ≠ b1 ∧ PB ≠ b2 ∧ w.heap.size + 1 < b1 ∧ w.heap.size + 1 < b2 ∧ w.heap.size + 1 < PB
theorem Fil.on {w wr wy : World} {PC : Array Value} {PB b1 b2 n k : Nat} {f : Nat → Bool} {g : Nat → Int} (h : Fil w wr PC PB b1 b2 n k f g) (hb : Below wr.heap.size wr wy) : Fil w wy PC PB b1 b2 n k f g :=
  ⟨to_ h.low hb, h.prog.below hb h.prog.lt, h.res.below hb h.res.lt, h.box.below hb h.box.lt, h.r1.below hb h.r1.lt, h.r2.below hb h.r2.lt, h.ne⟩
theorem Fil.set1 {w wr : World} {PC : Array Value} {PB b1 b2 n k : Nat} {f : Nat → Bool} {g : Nat → Int} (h : Fil w wr PC PB b1 b2 n k f g) (hk : k < n) {x : Bool} (hx : x = f k) : Blk (wr.setCell ⟨b1, k, none⟩ (.bool x)) b1 4 (arrB n (k + 1) f) := by
  subst hx
  have := h.r1.stored k (.bool (f k))
  rwa [arrB_set f hk] at this
theorem Fil.both {w wr wz : World} {PC : Array Value} {PB b1 b2 n k : Nat} {f : Nat → Bool} {g : Nat → Int} (h : Fil w wr PC PB b1 b2 n k f g) (h1 : Blk wz b1 4 (arrB n (k + 1) f)) (h2 : Blk wz b2 3 (arrI n (k + 1) g))
    (hz : ∀ b, b < wr.heap.size → b ≠ b1 → b ≠ b2 → wz.heap[b]? = wr.heap[b]?) (hl : Below w.heap.size w wz) : Fil w wz PC PB b1 b2 n (k + 1) f g :=
  ⟨hl, (hz _ h.prog.lt (by have := h.ne; omega) (by have := h.ne; omega)).trans h.prog, (hz _ h.res.lt (by have := h.ne; omega) (by have := h.ne; omega)).trans h.res, (hz _ h.box.lt (by have := h.ne; omega) (by have := h.ne; omega)).trans h.box, h1, h2, h.ne⟩
def kpAll (_ : Nat) : Bool := true
def ckFull (P : Pgm) (i : Nat) : Int := if (gfAt P.fs i).F.no = true then 0 else 3
def kpOf (l : List Bool) (i : Nat) : Bool := l.getD i false
def ckLean (P : Pgm) (l : List Bool) (i : Nat) : Int := if l.getD i false = true then 0 else leastV (frV (gfAt P.fs i).F)

set_option maxRecDepth 100000 in
set_option maxHeartbeats 4000000 in
theorem full_any (w : World) (P : Pgm) (hfr : Wd 13 encGf w w.heap.size P.fA P.fn P.fc P.fs) (hfn : P.fn ≤ 1000) : Calls Try.prog 17 #[pgV P] w (plA w P.fn kpAll (ckFull P)) := by
  have HGF := Lib.hid (fun W (hb : Below w.heap.size w W) a (ha : a < P.fn) => gf_at (hfr.below hb) ha)
  have HE := Lib.hid (fun W => empty_any W P hfn)
  obtain ⟨ff, hff⟩ : ∃ x, kpAll = x := ⟨_, rfl⟩
  obtain ⟨gg, hgg⟩ : ∃ x, (ckFull P) = x := ⟨_, rfl⟩
  rw [hff, hgg]
  have HFF := Lib.hid hff
  have HGG := Lib.hid hgg
  clear hff hgg
  obtain ⟨fA, fn, fc, fs, dA, dn, dc, ds, en, cs⟩ := P
  unfold pgV
  dsimp only at HGF HE hfn ⊢
  have HN := Lib.hid hfn
  obtain ⟨W0, hW0⟩ : ∃ W0, (w.alloc (.cells #[.slice fA fn fc, .slice dA dn dc, .int .i64 en] 34)).alloc (.cells #[.slice none 0 0, .slice none 0 0] 29) = W0 := ⟨_, rfl⟩
  have HB0 := Lib.hid (show Below w.heap.size w W0 from by rw [← hW0]; exact to_ (alloc_ _ _) (alloc_ _ _))
  have HK1 := Lib.hid (show Blk W0 w.heap.size 34 #[.slice fA fn fc, .slice dA dn dc, .int .i64 en] from by rw [← hW0]; exact (Blk.new _ _ _).alloc _)
  have HK2 := Lib.hid (show Blk W0 (w.heap.size + 1) 29 #[.slice none 0 0, .slice none 0 0] from by
    rw [← hW0]
    have := Blk.new (w.alloc (.cells #[.slice fA fn fc, .slice dA dn dc, .int .i64 en] 34)) 29 #[.slice none 0 0, .slice none 0 0]
    rwa [World.size_alloc] at this)
  have b0 : W0.cell? ⟨w.heap.size, 0, none⟩ = some (.slice fA fn fc) := HK1.out.cell 0
  have b1 : W0.cell? ⟨w.heap.size, 1, none⟩ = some (.slice dA dn dc) := HK1.out.cell 1
  have b2 : W0.cell? ⟨w.heap.size, 2, none⟩ = some (.int .i64 en) := HK1.out.cell 2
  clear hfr
  unfold pgV at HE
  go_enter Try.func17, Try.ntmps17
  go_wp2_with (go_at_call 31; refine (HE.out _).mono ?_; rintro e w3 ⟨c1, c2, rfl, n1, n2, hne, hl1, hl2, hb3⟩; have HB3 := Lib.hid hb3; have HS3 := Lib.hid (show w.heap.size + 1 < c1 ∧ w.heap.size + 1 < c2 from by have := HK2.out.lt; omega); have hn1 := n1.lt; have hn2 := n2.lt; have HFI := Lib.hid (show ∀ ff gg, Fil w (w3.alloc (.cells #[.slice (some ⟨c1, 0, none⟩) fn fn, .slice (some ⟨c2, 0, none⟩) fn fn] 29)) #[.slice fA fn fc, .slice dA dn dc, .int .i64 en] w3.heap.size c1 c2 fn 0 ff gg from fun ff gg => ⟨to_ (to_ HB0.out hb3) (alloc_ _ _), (HK1.out.below hb3 HK1.out.lt).alloc _, (HK2.out.below hb3 HK2.out.lt).alloc _, Blk.new _ _ _, by rw [arrB_zero]; exact n1.alloc _, by rw [arrI_zero]; exact n2.alloc _, by have := HS3.out; omega⟩); clear n1 n2 hne hl1 hl2 hb3 hn1 hn2; obtain ⟨PB, hPB⟩ : ∃ x : Nat, w3.heap.size = x := ⟨_, rfl⟩; have HPB := Lib.hid hPB; rw [hPB] at HFI; obtain ⟨W1, hW1⟩ : ∃ x, w3.alloc (.cells #[.slice (some ⟨c1, 0, none⟩) fn fn, .slice (some ⟨c2, 0, none⟩) fn fn] 29) = x := ⟨_, rfl⟩; rw [hW1] at HFI; have d0 : W1.cell? ⟨w.heap.size, 0, none⟩ = some (.slice fA fn fc) := (HFI.out (fun _ => false) (fun _ => 0)).prog.cell 0; clear b0 b1 b2 hW0)
  clear hW1 d0
  have HFI := Lib.hid (HFI.out ff gg)
  try rw [hPB]
  clear hPB
  go_loopw [11] (fun i9 wr => ∃ k : Nat, k ≤ fn ∧ i9 = .int .i64 (k : Int) ∧ Hid (Fil w wr #[.slice fA fn fc, .slice dA dn dc, .int .i64 en] PB c1 c2 fn k ff gg)) (fun i9 _ => fn - (intOf i9).toNat)
  case atStart => exact ⟨0, Nat.zero_le _, rfl, HFI⟩
  case round =>
    obtain ⟨k, hk, rfl, HF⟩ := hrel
    by_cases hlt : k < fn
    · have hkI : (k : Int) < (fn : Int) := by omega
      have hk0 : (0 : Int) ≤ (k : Int) := by omega
      have HLT := Lib.hid hlt
      obtain ⟨ad, rfl, hz9, f0, hfc⟩ := HGF.out wr HF.out.low k hlt
      have HFK := Lib.hid (congrFun HFF.out k)
      have HGK := Lib.hid (congrFun HGG.out k)
      unfold kpAll at HFK
      unfold ckFull at HGK
      dsimp only at HFK HGK
      obtain ⟨g, hg⟩ : ∃ g, gfAt fs k = g := ⟨_, rfl⟩
      rw [hg] at hfc f0 HGK
      skip
      clear hg
      obtain ⟨file, item, nm, ⟨cl, ⟨kA, kn, kc⟩, pd, no, fr, tt, ⟨lA, ln, lc⟩, ⟨cA, cn, cc⟩, ⟨rA, rn, rc⟩⟩, ⟨qA, qn, qc⟩, refs⟩ := g
      have f1 := hfc 0 _ rfl
      have f2 := hfc 1 _ rfl
      have f3 := hfc 2 _ rfl
      have f4 := hfc 3 _ rfl
      have f5 := hfc 4 _ rfl
      have f6 := hfc 5 _ rfl
      have f7 := hfc 6 _ rfl
      have f8 := hfc 7 _ rfl
      have f9 := hfc 8 _ rfl
      have f10 := hfc 9 _ rfl
      have f11 := hfc 10 _ rfl
      have f12 := hfc 11 _ rfl
      unfold slV at f4 f9 f10 f11 f12
      dsimp only at HGK f0 f1 f2 f3 f4 f5 f6 f7 f8 f9 f10 f11 f12
      clear hfc
      obtain ⟨wz, hwz⟩ : ∃ wz, wz = wr := ⟨_, rfl⟩
      subst hwz
      obtain ⟨FBK, hFB⟩ : ∃ x : Nat, wz.heap.size = x := ⟨_, rfl⟩
      obtain ⟨wy, hwy⟩ : ∃ wy, wz.alloc (.cells #[.int .i64 (file : Int), .int .i64 (item : Int), .string nm, .int .i64 cl, .slice kA kn kc, .int .i64 pd, .bool no, .int .i64 fr, .int .i64 tt, .slice lA ln lc, .slice cA cn cc, .slice rA rn rc, .slice qA qn qc] 72) = wy := ⟨_, rfl⟩
      have HFB := Lib.hid (show Blk wy FBK 72 #[.int .i64 (file : Int), .int .i64 (item : Int), .string nm, .int .i64 cl, .slice kA kn kc, .int .i64 pd, .bool no, .int .i64 fr, .int .i64 tt, .slice lA ln lc, .slice cA cn cc, .slice rA rn rc, .slice qA qn qc] from by rw [← hwy, ← hFB]; exact Blk.new _ _ _)
      have HY := Lib.hid (HF.out.on (show Below wz.heap.size wz wy from by rw [← hwy]; exact alloc_ _ _))
      have HYZ := Lib.hid (show Below wz.heap.size wz wy from by rw [← hwy]; exact alloc_ _ _)
      have HNE := Lib.hid (show FBK ≠ c1 ∧ FBK ≠ c2 from by have := HF.out.r1.lt; have := HF.out.r2.lt; omega)
      have HFBZ := Lib.hid hFB
      have e0 : wy.cell? ⟨PB, 0, none⟩ = some (.slice (some ⟨c1, 0, none⟩) fn fn) := HY.out.box.cell 0
      have e1 : wy.cell? ⟨c1, k, none⟩ = some (.bool false) := (HY.out.r1.cell k).trans (arrB_at ff hlt)
      have e2 : wy.frozen? ⟨c1, k, none⟩ = false := HY.out.r1.frozen k
      obtain ⟨wA, hwA⟩ : ∃ x, wy.setCell ⟨c1, k, none⟩ (.bool true) = x := ⟨_, rfl⟩
      have HA1 := Lib.hid (show Blk wA c1 4 (arrB fn (k + 1) ff) from by rw [← hwA]; exact HY.out.set1 hlt HFK.out)
      have HAZ := Lib.hid (show ∀ b, b ≠ c1 → wA.heap[b]? = wy.heap[b]? from fun b hb => by rw [← hwA]; exact Below.heap_setCell _ ⟨c1, k, none⟩ _ b hb)
      have HAL := Lib.hid (show Below w.heap.size w wA from by rw [← hwA]; exact far_below HY.out.low (by have := HY.out.ne; omega))
      have f6A : wA.cell? ⟨FBK, 6, none⟩ = some (.bool no) := (World.cell?_of_block (HAZ.out FBK HNE.out.1)).trans (HFB.out.cell 6)
      have g0 : wA.cell? ⟨PB, 1, none⟩ = some (.slice (some ⟨c2, 0, none⟩) fn fn) := (World.cell?_of_block (HAZ.out PB (by have := HY.out.ne; omega))).trans (HY.out.box.cell 1)
      have hA2 : Blk wA c2 3 (arrI fn k gg) := (HAZ.out c2 (by have := HY.out.ne; omega)).trans HY.out.r2
      have HA2 := Lib.hid hA2
      have g1 : wA.cell? ⟨c2, k, none⟩ = some (.int .i64 0) := (hA2.cell k).trans (arrI_at gg hlt)
      have g2 : wA.frozen? ⟨c2, k, none⟩ = false := hA2.frozen k
      clear hA2
      cases no with
      | true =>
        have HG0 := Lib.hid (show gg k = 0 from by rw [← HGK.out]; rfl)
        go_wp2_with fail
        go_roundw
        case rel => exact ⟨k + 1, by have := HLT.out; omega, by go_num, Lib.hid (HY.out.both HA1.out (by rw [← arrI_same gg HG0.out]; exact HA2.out) (fun b _ h1 _ => HAZ.out b h1) HAL.out)⟩
        case measure => have := HLT.out; simp [intOf]; omega
      | false =>
        have HG0 := Lib.hid (show (3 : Int) = gg k from by rw [← HGK.out]; rfl)
        obtain ⟨wB, hwB⟩ : ∃ x, wA.setCell ⟨c2, k, none⟩ (.int .i64 3) = x := ⟨_, rfl⟩
        have HBB2 := Lib.hid (show Blk wB c2 3 (arrI fn (k + 1) gg) from by
          rw [← hwB]
          have := HA2.out.stored k (.int .i64 3)
          rw [HG0.out, arrI_set gg HLT.out] at this
          rw [HG0.out]; exact this)
        have HBZ := Lib.hid (show ∀ b, b ≠ c2 → wB.heap[b]? = wA.heap[b]? from fun b hb => by rw [← hwB]; exact Below.heap_setCell _ ⟨c2, k, none⟩ _ b hb)
        have HBLW := Lib.hid (show Below w.heap.size w wB from by rw [← hwB]; exact far_below HAL.out (by have := HY.out.ne; omega))
        go_wp2_with fail
        go_roundw
        case rel => exact ⟨k + 1, by have := HLT.out; omega, by go_num, Lib.hid (HY.out.both ((HBZ.out c1 (by have := HY.out.ne; omega)).trans HA1.out) HBB2.out (fun b _ h1 h2 => (HBZ.out b h2).trans (HAZ.out b h1)) HBLW.out)⟩
        case measure => have := HLT.out; simp [intOf]; omega
    · obtain rfl : k = fn := by omega
      have e0 : wr.cell? ⟨PB, 0, none⟩ = some (.slice (some ⟨c1, 0, none⟩) k k) := HF.out.box.cell 0
      have e1 : wr.cell? ⟨PB, 1, none⟩ = some (.slice (some ⟨c2, 0, none⟩) k k) := HF.out.box.cell 1
      have e2 : wr.cell? ⟨w.heap.size + 1, 0, none⟩ = some (.slice none 0 0) := HF.out.res.cell 0
      have e3 : wr.cell? ⟨w.heap.size + 1, 1, none⟩ = some (.slice none 0 0) := HF.out.res.cell 1
      have e4 := HF.out.res.frozen 0
      have e5 := HF.out.res.frozen 1
      have hr := (HF.out.res.stored 0 (.slice (some ⟨c1, 0, none⟩) k k)).stored 1 (.slice (some ⟨c2, 0, none⟩) k k)
      have HR0 := Lib.hid (show ((wr.setCell ⟨w.heap.size + 1, 0, none⟩ (.slice (some ⟨c1, 0, none⟩) k k)).setCell ⟨w.heap.size + 1, 1, none⟩ (.slice (some ⟨c2, 0, none⟩) k k)).cell? ⟨w.heap.size + 1, 0, none⟩ = some (.slice (some ⟨c1, 0, none⟩) k k) from (hr.cell 0).trans (by simp))
      have HR1 := Lib.hid (show ((wr.setCell ⟨w.heap.size + 1, 0, none⟩ (.slice (some ⟨c1, 0, none⟩) k k)).setCell ⟨w.heap.size + 1, 1, none⟩ (.slice (some ⟨c2, 0, none⟩) k k)).cell? ⟨w.heap.size + 1, 1, none⟩ = some (.slice (some ⟨c2, 0, none⟩) k k) from (hr.cell 1).trans (by simp))
      clear hr
      go_wp2_with fail
      refine bodyPost_ret (v := .agg #[.slice (some ⟨c1, 0, none⟩) k k, .slice (some ⟨c2, 0, none⟩) k k]) (by simp [results, Try.results17, go_sem, HR0.out, HR1.out]) rfl ?_
      exact plA_of HN.out (far_blk (far_blk HF.out.r1 (by have := HF.out.ne; omega)) (by have := HF.out.ne; omega)) (far_blk (far_blk HF.out.r2 (by have := HF.out.ne; omega)) (by have := HF.out.ne; omega)) (far_below (far_below HF.out.low (by omega)) (by omega))
end Go.Proofs.Ytnenmgefgdpkdaa.Bo
