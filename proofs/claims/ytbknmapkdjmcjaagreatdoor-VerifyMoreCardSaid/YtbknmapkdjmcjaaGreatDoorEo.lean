/-
  HELPERS of the layers below, gathered.
-/
import Derived.Test.YtbknmapkdjmcjaaGreatDoorWa
import Derived.Test.YtbknmapkdjmcjaaGreatDoorGp
import Derived.Test.YtbknmapkdjmcjaaGreatDoorRg
import Derived.Test.YtbknmapkdjmcjaaGreatDoorHm
import Derived.Deep.RegionHeld3
namespace Go.Proofs.YtbknmapkdjmcjaaGreatDoor.By
open Go.RowKit
open Mem Gm Rf
set_option linter.unusedSimpArgs false

theorem ownk_keep {w w' : World} {base n k : Nat} {E : TypeId} {v : Value} {xs : List Value} (h : w.ownsRow base E k v n xs) (hk : ∀ g, base ≤ g → g < w.heap.size → w'.heap[g]? = w.heap[g]?) : w'.ownsRow base E k v n xs := by
  obtain ⟨h1, h2⟩ := h
  refine ⟨h1, ?_⟩
  rcases h2 with h2 | ⟨g, cap, cur, hv, hb, hg, r⟩
  · exact .inl h2
  · exact .inr ⟨g, cap, cur, hv, hb, (hk g hb (Array.getElem?_eq_some_iff.1 hg).1).trans hg, r⟩
theorem blk_away {w : World} {g : Nat} {t : TypeId} {cs : Array Value} (h : Blk w g t cs) (p : Addr) (u : Value) (hne : g ≠ p.block) : Blk (w.setCell p u) g t cs := (Below.heap_setCell w p u g hne).trans h
def fl (b : Bool) : Int := if b then 1 else 0
theorem putB2 (n : Int) : (putB n 2).length = 2 := by unfold putB; rw [if_pos (by omega)]; exact be_length ..
theorem putB1 (n : Int) : (putB n 1).length = 1 := by unfold putB; rw [if_pos (by omega)]; exact be_length ..
theorem u8_own {w : World} {base : Nat} {v : Value} {l : List UInt8} (h : w.ownsRow base 5 1 v (u8s l).length (u8s l)) : SlV w w.heap.size v (u8s l) := SlV.of_own h
theorem own_formW {w : World} {base n : Nat} {v : Value} {xs : List Value} {e : TypeId} {k : Nat} (h : w.ownsRow base e k v n xs) : ∃ A c, v = .slice A n c := by
  rcases h.2 with ⟨rfl, rfl⟩ | ⟨g, cap, cur, rfl, _⟩
  · exact ⟨none, 0, rfl⟩
  · exact ⟨_, cap, rfl⟩
/-- How a reader stands: how many bytes were taken, whether it is good. -/
abbrev Std := Nat × Bool
def pgS (l : List UInt8) (s : Std) (k : Int) : Std := (readP l s.1 s.2 k, fitsB l s.1 s.2 k)
def rvS (l : List UInt8) (s : Std) (k : Int) : Int := readV false l s.1 s.2 k
def RdS (w : World) (g : Nat) (A : Option Addr) (c : Nat) (l : List UInt8) (s : Std) : Prop := Rdr w g A c l s.1 s.2
def NumS (w : World) (g : Nat) (A : Option Addr) (c : Nat) (l : List UInt8) (s : Std) (k : Int) (e : Ending) (w' : World) : Prop :=
  e = .returned (.int .i64 (rvS l s k)) ∧ RdS w' g A c l (pgS l s k) ∧ w.grownBy w' (some g)
theorem num_s (w : World) (g : Nat) (A : Option Addr) (c : Nat) (l : List UInt8) (s : Std) (h : RdS w g A c l s) (k : Int) : Calls Tryz.prog 190 #[.pointer (some ⟨g, 0, none⟩), .int .i64 k] w (NumS w g A c l s k) := num_any w g A c l s.1 s.2 h k
theorem bad_s (w : World) (g : Nat) (A : Option Addr) (c : Nat) (l : List UInt8) (s : Std) (h : RdS w g A c l s) : Calls Tryz.prog 227 #[.pointer (some ⟨g, 0, none⟩)] w fun e w' => e = .returned (.bool (!s.2)) ∧ w = w' := bad_any w g A c l s.1 s.2 h
theorem blk_only {w w' : World} {g r : Nat} {t : TypeId} {cs : Array Value} (h : Blk w r t cs) (hg : w.grownBy w' (some g)) (hne : r ≠ g) : Blk w' r t cs := h.only hg hne
theorem rd_other {w : World} {g : Nat} {A : Option Addr} {c : Nat} {l : List UInt8} {s : Std} (h : RdS w g A c l s) (p : Addr) (u : Value) (hp : g < p.block) : RdS (w.setCell p u) g A c l s :=
  Rdr.below h (B := g + 1) ((Below.refl (g + 1) w).setCell (by omega) u) (by omega)
/-- Only block g has turned of those that lay there. -/
theorem only_high {a b : World} {g : Nat} (h : a.grownBy b (some g)) (p : Addr) (u : Value) (hp : a.heap.size ≤ p.block) : a.grownBy (b.setCell p u) (some g) :=
  ⟨h.os, h.tape, h.output, by simpa [World.setCell] using h.size, fun k hk hne => (Below.heap_setCell b p u k (by omega)).trans (h.block k hk hne)⟩
theorem only_to {a b c : World} {g : Nat} (h : a.grownBy b (some g)) (k : b.grownBy c (some g)) : a.grownBy c (some g) := only_trans h k
theorem only_grown {a b c : World} {g : Nat} {row : Option Nat} (h : a.grownBy b (some g)) (k : b.grownBy c row) (hr : ∀ r, row = some r → a.heap.size ≤ r) : a.grownBy c (some g) :=
  ⟨k.os.trans h.os, k.tape.trans h.tape, k.output.trans h.output, Nat.le_trans h.size k.size, fun i hi hne => (k.block i (Nat.lt_of_lt_of_le hi h.size) (fun e => by have := hr i e.symm; omega)).trans (h.block i hi hne)⟩
theorem below_grown {b c : World} {B : Nat} {row : Option Nat} (k : b.grownBy c row) (hr : ∀ r, row = some r → B ≤ r) (hB : B ≤ b.heap.size) : Below B b c :=
  (Below.refl B b).grown k hB hr
theorem rflag_any (b : Bool) (w : World) : Calls Tryz.prog 80 #[.bool b] w fun e w' => e = .returned (.int .i64 (fl b)) ∧ w = w' := by
  cases b
  all_goals
    go_enter Tryz.func80, Tryz.ntmps80
    go_wp2
    go_ret
    exact ⟨rfl, rfl⟩
/-- A row of bytes of the call's own. -/
def Ob (W : World) (base : Nat) (v : Value) (l : List UInt8) : Prop := W.ownsRow base 5 1 v (u8s l).length (u8s l)
theorem pgS_le {l : List UInt8} {s : Std} (h : s.1 ≤ l.length) (k : Int) : (pgS l s k).1 ≤ l.length := by
  unfold pgS readP
  show (if _ then _ else _) ≤ _
  split
  · rename_i hf
    unfold fitsB at hf
    rw [Bool.and_eq_true, decide_eq_true_eq] at hf
    have h1 := hf.2.2.2
    have h2 := hf.2.1
    have h3 : ((s.1 : Int) + k) ≤ (l.length : Int) := h1
    have h4 : s.1 + k.toNat ≤ l.length := by omega
    exact h4
  · exact h
def rdC (A : Option Addr) (n c : Nat) (s : Std) : Array Value := #[.slice A n c, .int .i64 (s.1 : Int), .bool (!s.2)]
theorem blk_ce3 {w : World} {g : Nat} {t : TypeId} {a b d : Value} (h : Blk w g t #[a, b, d]) : w.cell? ⟨g, 0, none⟩ = some a ∧ w.cell? ⟨g, 1, none⟩ = some b ∧ w.cell? ⟨g, 2, none⟩ = some d := ⟨h.cell 0, h.cell 1, h.cell 2⟩
theorem blk_fr3 {w : World} {g : Nat} {t : TypeId} {cs : Array Value} (h : Blk w g t cs) : w.frozen? ⟨g, 0, none⟩ = false ∧ w.frozen? ⟨g, 1, none⟩ = false ∧ w.frozen? ⟨g, 2, none⟩ = false := ⟨h.frozen 0, h.frozen 1, h.frozen 2⟩
theorem blk_put3 {w : World} {g : Nat} {t : TypeId} {a b d : Value} (h : Blk w g t #[a, b, d]) (a' b' d' : Value) : Blk (((w.setCell ⟨g, 0, none⟩ a').setCell ⟨g, 1, none⟩ b').setCell ⟨g, 2, none⟩ d') g t #[a', b', d'] := ((h.stored 0 a').stored 1 b').stored 2 d'
theorem blk_away3 {w : World} {g : Nat} {t : TypeId} {cs : Array Value} (h : Blk w g t cs) (r : Nat) (hne : g ≠ r) (a b d : Value) : Blk (((w.setCell ⟨r, 0, none⟩ a).setCell ⟨r, 1, none⟩ b).setCell ⟨r, 2, none⟩ d) g t cs := blk_away (blk_away (blk_away h _ _ hne) _ _ hne) _ _ hne
theorem below_put3 {B : Nat} {w0 w : World} (h : Below B w0 w) (r : Nat) (hr : B ≤ r) (a b d : Value) : Below B w0 (((w.setCell ⟨r, 0, none⟩ a).setCell ⟨r, 1, none⟩ b).setCell ⟨r, 2, none⟩ d) := ((h.setCell (p := ⟨r, 0, none⟩) hr _).setCell (p := ⟨r, 1, none⟩) hr _).setCell (p := ⟨r, 2, none⟩) hr _
theorem heap_put3 (w : World) (r g : Nat) (hne : g ≠ r) (a b d : Value) : (((w.setCell ⟨r, 0, none⟩ a).setCell ⟨r, 1, none⟩ b).setCell ⟨r, 2, none⟩ d).heap[g]? = w.heap[g]? :=
  (Below.heap_setCell _ ⟨r, 2, none⟩ _ g hne).trans ((Below.heap_setCell _ ⟨r, 1, none⟩ _ g hne).trans (Below.heap_setCell _ ⟨r, 0, none⟩ _ g hne))
theorem ints_app1 (l : List Int) (z : Int) : ints l ++ [.int .i64 z] = ints (l ++ [z]) := by simp [ints]
theorem info2 : (Tryz.prog.info? 2).map (fun i => (i.zero, i.size, i.bytes)) = some (some (.int .i64 0), 1, 8) := by kernel_rfl
theorem step_append_own {P : Program} {ops : Array Oper} {o : Oper} {a : Act} {w : World} {K : Act → World → Prop} {Q : Exit → Act → World → Prop} {Z : Prop}
    (hgd : o.guard = none) (s x : Operand) (t : TypeId) (ho : o.op = .call { callee := .builtin .append, args := #[s, x], argTypes := #[t, t] })
    (base : Nat) (e : TypeId) (i : TypeInfo) (z : Value) (size bytes : Nat) (ht : P.underlying t = some (.slice e)) (hi : P.info? e = some i) (hz : i.zero = some z)
    (hsize : i.size = size) (hby : i.bytes = bytes) (hzs : z.cells.size = size) (hsz : 0 < size)
    (v : Value) (n : Nat) (xs : List Value) (hs : a.eval s = v) (hown : w.ownsRow base e size v n xs)
    (ad : Addr) (c : Nat) (news : List Value) (hx : a.eval x = .slice (some ad) 1 c) (hl : news.length = 1 * size) (hu : ∀ j u, news[j]? = some u → w.cell? (ad.add j) = some u) (h1 : ∀ u ∈ news, u.oneCell' = true)
    (h63 : n + 1 ≤ maxLen) (hbytes : (n + 1) * bytes ≤ 140737488355328) (hbase : base ≤ w.heap.size)
    (hK : ∀ v' w', w'.ownsRow base e size v' (n + 1) (xs ++ news) → w.grownBy w' v.ownBlock → K (a.put o.dst v') w') :
    if Region.wanted o (yielded ops a.tmps) = true then Oper.wp P o a w K Q else Z := by
  have hw : Region.wanted o (yielded ops a.tmps) = true := by simp [Region.wanted, hgd]
  rw [if_pos hw]
  obtain ⟨v', w', hr, h2, h3, _⟩ := run_append_own (P := P) w base t o.type e i z size bytes ht hi hz hsize hby hzs hsz v n xs hown ad 1 c news hl hu h1 h63 hbytes hbase
  unfold Oper.wp execOp
  simp only [ho, resolve, invoke, builtin, Sem.run_bind, Sem.run_pure, Result.andThen_ok, List.map_toArray, List.map_cons, List.map_nil, hs, hx, hr]
  exact hK v' w' h2 h3
def IW (w : World) (v : Value) (l : List Int) : Prop := SlV w w.heap.size v (ints l)
theorem IW.on {w w' : World} {v : Value} {l : List Int} (h : IW w v l) (hb : Below w.heap.size w w') : IW w' v l := (SlV.below h hb).more hb.size
theorem IW.lit {w : World} {b : Nat} {t : TypeId} {cs : Array Value} (l : List Int) (n : Nat) (hb : Blk w b t cs) (hc : cs.toList = ints l) (hn : l.length = n) (hm : n ≤ 1000) : IW w (.slice (some ⟨b, 0, none⟩) n n) l := by
  subst hn
  have hlen : (ints l).length = l.length := by simp [ints]
  have : SlV w w.heap.size (.slice (some ⟨b, 0, none⟩) (ints l).length l.length) (ints l) :=
    .at_ _ _ _ (by rw [hlen]; exact Nat.le_refl _) (by unfold maxLen; omega) fun j u hu => ⟨hb.lt, by rw [add_plain, Nat.zero_add, hb.cell, ← Array.getElem?_toList, hc]; exact hu⟩
  rwa [hlen] at this
def IAns (L : Nat) (l : List Int) (w : World) (e : Ending) (w' : World) : Prop := ∃ A c, e = .returned (.slice A L c) ∧ IW w' (.slice A L c) l ∧ Below w.heap.size w w'
def TAns (w : World) (e : Ending) (w' : World) : Prop := e = .returned (.bool true) ∧ Below w.heap.size w w'
theorem ints_w {w : World} {A A2 : Option Addr} {c c2 L : Nat} {l : List Int} (hL : l.length = L) (h : IW w (.slice A L c) l) (h2 : IW w (.slice A2 L c2) l) (hl : L ≤ 1000) : Calls Tryz.prog 89 #[.slice A L c, .slice A2 L c2] w (TAns w) := by
  subst hL
  refine (ints_same w _ _ A A2 c c2 l h h2 (by omega)).mono fun e w' hh => ?_
  obtain ⟨h1, n, rfl⟩ := hh
  exact ⟨h1, below_drewN (Below.refl _ _) _⟩
end Go.Proofs.YtbknmapkdjmcjaaGreatDoor.By
