/-
  WALKS of layer 14: graphs of code, and the document's own.
-/
import Derived.Test.YthkbdclnnpcoiaaUd
namespace Go.Proofs.Ythkbdclnnpcoiaa.By
open Go.RowKit
open Mem Gm Rf

def arrN (N : Nat) (f : Nat → Value) : Array Value := ((List.range N).map f).toArray
theorem arrN_size (N : Nat) (f : Nat → Value) : (arrN N f).size = N := by simp [arrN]
theorem arrN_at {N : Nat} (f : Nat → Value) {i : Nat} (h : i < N) : (arrN N f)[i]? = some (f i) := by simp [arrN, h]
theorem arrN_set {N : Nat} (f : Nat → Value) (i : Nat) (u : Value) : (arrN N f).setIfInBounds i u = arrN N (fun j => if j = i then u else f j) := by
  apply Array.ext
  · simp [arrN]
  · intro j h1 h2
    have hj : j < N := by simpa [arrN] using h2
    rw [Array.getElem_setIfInBounds (by rw [arrN_size]; exact hj)]
    by_cases e : i = j
    · subst e; simp [arrN]
    · have e2 : ¬ j = i := fun h => e h.symm
      simp [arrN, e, e2]
theorem arrN_rep (N : Nat) (u : Value) : Array.replicate N u = arrN N fun _ => u := by
  apply Array.ext
  · simp [arrN]
  · intro j h1 h2; simp [arrN]

theorem wpList_append_wh {P : Program} (w : World) {ops : Array Oper} {rest : List Oper} {o : Oper} {a : Act} {Q : Exit → Act → World → Prop} (hgd : o.guard = none) (s x : Operand) (t : TypeId)
    (ho : o.op = .call { callee := .builtin .append, args := #[s, x], argTypes := #[t, t] })
    (base : Nat) (e : TypeId) (i : TypeInfo) (z : Value) (size bytes : Nat) (ht : P.underlying t = some (.slice e)) (hi : P.info? e = some i) (hz : i.zero = some z)
    (hsize : i.size = size) (hby : i.bytes = bytes) (hzs : z.cells.size = size) (hsz : 0 < size)
    (v : Value) (n : Nat) (xs : List Value) (hs : a.eval s = v) (hown : w.ownsRow base e size v n xs)
    (ad : Addr) (m c : Nat) (news : List Value) (hm : 0 < m) (hx : a.eval x = .slice (some ad) m c) (hl : news.length = m * size) (hnews : ∀ j u, news[j]? = some u → w.cell? (ad.add j) = some u) (h1 : ∀ u ∈ news, u.oneCell' = true)
    (h63 : n + m ≤ maxLen) (hbytes : (n + m) * bytes ≤ 140737488355328) (hbase : base ≤ w.heap.size)
    (h : ∀ v' w', w'.ownsRow base e size v' (n + m) (xs ++ news) → w.grownBy w' v.ownBlock → (v'.ownBlock = v.ownBlock ∨ v'.ownBlock = some w.heap.size) → wpList P ops Q rest (a.put o.dst v') w') : wpList P ops Q (o :: rest) a w :=
  wpList_plain hgd fun _ hK => by
    obtain ⟨v', w', hr, h2, h3, _⟩ := run_append_own (P := P) w base t o.type e i z size bytes ht hi hz hsize hby hzs hsz v n xs hown ad m c news hl hnews h1 h63 hbytes hbase
    have h5 := append_where (P := P) w base t o.type e i z size bytes ht hi hz hsize hby v n xs hown ad m c news hm hl hnews h1 h63 hbytes hr
    unfold Oper.wp execOp
    simp only [ho, resolve, invoke, builtin, Sem.run_bind, Sem.run_pure, Result.andThen_ok, List.map_toArray, List.map_cons, List.map_nil, hs, hx, hr]
    exact hK _ _ (h v' w' h2 h3 h5)

/-- The graph of some code. -/
def gph (n : Nat) (O T : Nat → Int) : List (List Int) := (List.range n).map fun (i : Nat) => nxt n O T (i : Int)
theorem gph_length (n : Nat) (O T : Nat → Int) : (gph n O T).length = n := by simp [gph]
theorem gph_row {n : Nat} (O T : Nat → Int) {i : Nat} (hi : i < n) : rowOf (gph n O T) i = nxt n O T (i : Int) := by
  unfold rowOf gph
  rw [List.getD_eq_getElem?_getD, List.getElem?_map, List.getElem?_range hi]; rfl

theorem Rw.keep {W W' : World} {base : Nat} {v : Value} {l : List Int} (h : Rw W base v l) (hk : ∀ g, base ≤ g → g < W.heap.size → v.ownBlock = some g → W'.heap[g]? = W.heap[g]?) : Rw W' base v l := by
  obtain ⟨A, c, rfl, ho⟩ := h
  exact ⟨A, c, rfl, own_keep ho hk⟩
theorem Rw.below {W W' : World} {base : Nat} {v : Value} {l : List Int} (h : Rw W base v l) (hb : Below W.heap.size W W') : Rw W' base v l := h.keep fun g _ hg _ => hb.block g hg
theorem Rw.less {W : World} {base base' : Nat} {v : Value} {l : List Int} (h : Rw W base v l) (hb : base' ≤ base) : Rw W base' v l := by
  obtain ⟨A, c, rfl, ho⟩ := h
  exact ⟨A, c, rfl, own_less ho hb⟩
theorem Rw.lt {W : World} {base : Nat} {v : Value} {l : List Int} (h : Rw W base v l) {g : Nat} (hg : v.ownBlock = some g) : base ≤ g ∧ g < W.heap.size := by
  obtain ⟨A, c, rfl, ho⟩ := h
  exact ho.lt g hg
theorem Rw.slv {W : World} {base : Nat} {v : Value} {l : List Int} (h : Rw W base v l) : ∃ A c, v = .slice A l.length c ∧ SlV W W.heap.size v (ints l) := by
  obtain ⟨A, c, rfl, ho⟩ := h
  exact ⟨A, c, rfl, SlV.of_own ho⟩

def GAns (w : World) (g : List (List Int)) (e : Ending) (w' : World) : Prop := ∃ A c, e = .returned (.slice A g.length c) ∧ Gr w' w'.heap.size (.slice A g.length c) g ∧ Below w.heap.size w w'

/-- The first k rows lie in a block of the call's own. -/
def GS (W : World) (rb n k : Nat) (F : Nat → List Int) : Prop :=
  ∃ rs : Nat → Value, Blk W rb 22 (arrN n fun i => if i < k then rs i else .slice none 0 0) ∧ ∀ i, i < k → Rw W (rb + 1) (rs i) (F i)

theorem GS.below {W W' : World} {rb n k : Nat} {F : Nat → List Int} (h : GS W rb n k F) (hb : Below W.heap.size W W') : GS W' rb n k F := by
  obtain ⟨rs, h1, h2⟩ := h
  exact ⟨rs, h1.below hb h1.lt, fun i hi => (h2 i hi).below hb⟩

theorem GS.lt {W : World} {rb n k : Nat} {F : Nat → List Int} (h : GS W rb n k F) : rb + 1 ≤ W.heap.size := by
  obtain ⟨rs, h1, _⟩ := h
  exact h1.lt

theorem GS.store {W : World} {rb n k : Nat} {F : Nat → List Int} {v : Value} (h : GS W rb n k F) (hk : k < n) (hv : Rw W (rb + 1) v (F k)) : GS (W.setCell ⟨rb, k, none⟩ v) rb n (k + 1) F := by
  obtain ⟨rs, h1, h2⟩ := h
  have hkeep : ∀ i u, Rw W (rb + 1) u (F i) → Rw (W.setCell ⟨rb, k, none⟩ v) (rb + 1) u (F i) := fun i u hu => hu.keep fun g hg _ _ => Below.heap_setCell _ ⟨rb, k, none⟩ _ g (by show g ≠ rb; omega)
  refine ⟨fun i => if i = k then v else rs i, ?_, fun i hi => ?_⟩
  · have h3 := h1.stored k v
    rw [arrN_set] at h3
    have e : (fun (i : Nat) => if i = k then v else if i < k then rs i else Value.slice none 0 0) = fun i => if i < k + 1 then (if i = k then v else rs i) else .slice none 0 0 := by
      funext i
      by_cases e : i = k
      · subst e; simp
      · by_cases e2 : i < k
        · rw [if_neg e, if_pos e2, if_pos (by omega), if_neg e]
        · rw [if_neg e, if_neg e2, if_neg (by omega)]
    rw [e] at h3
    exact h3
  · by_cases e : i = k
    · subst e
      show Rw _ _ (if i = i then v else rs i) _
      rw [if_pos rfl]; exact hkeep i v hv
    · show Rw _ _ (if i = k then v else rs i) _
      rw [if_neg e]; exact hkeep i _ (h2 i (by omega))

theorem GS.gr {W : World} {rb n : Nat} {O T : Nat → Int} (h : GS W rb n n fun i => nxt n O T (i : Int)) (hn : n ≤ 1000) : Gr W W.heap.size (.slice (some ⟨rb, 0, none⟩) n n) (gph n O T) := by
  obtain ⟨rs, h1, h2⟩ := h
  refine ⟨(List.range n).map rs, ?_, by rw [gph_length]; simp, fun i rv hi => ?_⟩
  · have : SlV W W.heap.size (.slice (some ⟨rb, 0, none⟩) ((List.range n).map rs).length n) ((List.range n).map rs) := by
      refine .at_ _ _ _ (by simp) (by unfold maxLen; omega) fun j u hu => ⟨h1.lt, ?_⟩
      have hj : j < n := by have := (List.getElem?_eq_some_iff.1 hu).1; simpa using this
      rw [add_plain, Nat.zero_add, h1.cell, arrN_at _ hj, if_pos hj]
      rw [List.getElem?_map, List.getElem?_range hj] at hu
      exact hu
    rwa [List.length_map, List.length_range] at this
  · have hj : i < n := by have := (List.getElem?_eq_some_iff.1 hi).1; simpa using this
    rw [List.getElem?_map, List.getElem?_range hj] at hi
    injection hi with hi
    subst hi
    rw [gph_row _ _ hj]
    exact (h2 i hj).slv

set_option maxRecDepth 100000 in
set_option maxHeartbeats 2000000 in
theorem graph_any (w : World) (A : Option Addr) (n c : Nat) (O T : Nat → Int) (h : Cd w w.heap.size A n c O T) (hn : n ≤ 1000) :
    Calls Try.prog 25 #[.slice A n c] w (GAns w (gph n O T)) := by
  have hmk := make_rows n hn
  have HN := Lib.hid (fun W (hb : Below w.heap.size w W) (i : Int) => next_any W A n c O T ((h.below hb).more hb.size) i)
  have HG := Lib.hid (fun W rb (hs : GS W rb n n fun i => nxt n O T (i : Int)) => hs.gr hn)
  have HS := Lib.hid (fun W rb k v (hs : GS W rb n k fun i => nxt n O T (i : Int)) (hk : k < n) (hv : Rw W (rb + 1) v (nxt n O T (k : Int))) => hs.store hk hv)
  have h0 : GS (w.alloc (.cells (Array.replicate n (.slice none 0 0)) 22)) w.heap.size n 0 fun i => nxt n O T (i : Int) := ⟨fun _ => .slice none 0 0, by
    have e : (fun (i : Nat) => if i < 0 then Value.slice none 0 0 else Value.slice none 0 0) = fun _ => Value.slice none 0 0 := funext fun i => by simp
    rw [e, ← arrN_rep]; exact Blk.new w _ _, fun i hi => by omega⟩
  have hb0 : Below w.heap.size w (w.alloc (.cells (Array.replicate n (.slice none 0 0)) 22)) := (Below.refl _ w).alloc (Nat.le_refl _) _
  have HW0 := Lib.hid (show GS (w.alloc (.cells (Array.replicate n (.slice none 0 0)) 22)) w.heap.size n 0 (fun i => nxt n O T (i : Int)) ∧ Below w.heap.size w (w.alloc (.cells (Array.replicate n (.slice none 0 0)) 22)) from ⟨h0, hb0⟩)
  have HL := Lib.hid (gph_length n O T)
  clear h0 hb0 h
  go_enter Try.func25, Try.ntmps25
  go_wp2_with fail
  clear hmk
  go_loopw [10] (fun i wr => ∃ k : Nat, k ≤ n ∧ i = .int .i64 (k : Int) ∧ GS wr w.heap.size n k (fun i => nxt n O T (i : Int)) ∧ Below w.heap.size w wr) (fun i _ => n - (intOf i).toNat)
  case atStart => exact ⟨0, Nat.zero_le _, rfl, HW0.out.1, HW0.out.2⟩
  case round =>
    obtain ⟨k, hk, rfl, hgs, hbel⟩ := hrel
    by_cases hlt : k < n
    · have hkI : (k : Int) < (n : Int) := by omega
      have HGS := Lib.hid hgs
      have HBE := Lib.hid hbel
      clear hgs hbel
      go_wp2_with (go_at_call 23; go_loud (refine (HN.out wr HBE.out (k : Int)).mono ?_; rintro e w2 ⟨v2, rfl, hrw, hb2⟩; obtain ⟨rs, hblk, _⟩ := HGS.out.below hb2; have hc2 : w2.cell? ⟨w.heap.size, k, none⟩ = some (.slice none 0 0) := (hblk.cell k).trans (by rw [arrN_at _ hlt]; simp); have hf2 : w2.frozen? ⟨w.heap.size, k, none⟩ = false := hblk.frozen k; clear hblk; have HG2 := Lib.hid (HS.out w2 w.heap.size k v2 (HGS.out.below hb2) hlt (hrw.less (HGS.out.lt))); have HB2 := Lib.hid (HBE.out.trans (hb2.mono HBE.out.size)); obtain ⟨A2, c2, rfl, _⟩ := hrw; clear hb2))
      go_roundw
      case rel => exact ⟨k + 1, by omega, by go_num, HG2.out, HB2.out.setCell (p := ⟨w.heap.size, k, none⟩) (Nat.le_refl _) _⟩
      case measure => simp [intOf]; omega
    · obtain rfl : k = n := by omega
      have HGS := Lib.hid (HG.out _ _ hgs)
      have HBE := Lib.hid hbel
      clear hgs hbel
      go_wp2_with fail
      go_ret
      refine ⟨some ⟨w.heap.size, 0, none⟩, k, ?_, ?_, HBE.out⟩
      · rw [HL.out]; rfl
      · rw [HL.out]; exact HGS.out
end Go.Proofs.Ythkbdclnnpcoiaa.By
