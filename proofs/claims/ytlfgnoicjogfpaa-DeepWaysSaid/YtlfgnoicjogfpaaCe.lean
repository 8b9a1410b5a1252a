/-
  WALKS of layer 11: who is a member; the edges between members alone. WALK of layer 11: slices.DeleteFunc with the closure of within, of a row of the call's own.
-/
import Derived.Test.YtlfgnoicjogfpaaGf
import Derived.Test.YtlfgnoicjogfpaaShelf
import Derived.Lib.SliceRun
namespace Go.Proofs.Ytlfgnoicjogfpaa.By
open Go.RowKit
open Mem Gm Rf

def bls (l : List Bool) : List Value := l.map Value.bool
/-- A place is a member. -/
def memV (ins : List Bool) (p : Nat) : Bool := (ins[p]?).getD false

theorem bl_cell {w : World} {B n c : Nat} {A : Option Addr} {ins : List Bool} (hn : ins.length = n) (h : SlV w B (.slice A n c) (bls ins)) {p : Nat} (hp : p < n) : ∃ ad, A = some ad ∧ w.cell? (ad.add p) = some (.bool (memV ins p)) := by
  rcases h.inv with ⟨_, h0, _⟩ | ⟨ad, e, _, _, _, hr⟩
  · omega
  · refine ⟨ad, e, (hr p _ ?_).2⟩
    have hpl : p < ins.length := by omega
    rw [bls, List.getElem?_map, List.getElem?_eq_getElem hpl]
    simp [memV, List.getElem?_eq_getElem hpl]

theorem mem_any (w : World) (B n c : Nat) (A : Option Addr) (ins : List Bool) (p : Nat) (hn : ins.length = n) (h : SlV w B (.slice A n c) (bls ins)) :
    Calls Try.prog 109 #[.slice A n c, .int .i64 (p : Int)] w fun e w' => e = .returned (.bool (memV ins p)) ∧ w = w' := by
  by_cases hp : p < n
  · have hpI : (p : Int) < (n : Int) := by omega
    have hp0 : (0 : Int) ≤ (p : Int) := by omega
    have hpd : decide ((p : Int) < (n : Int)) = true := decide_eq_true hpI
    obtain ⟨ad, rfl, hc⟩ := bl_cell hn h hp
    generalize memV ins p = b at hc ⊢
    clear h hn
    go_enter Try.func109, Try.ntmps109
    go_wp2
    go_ret
    exact ⟨rfl, rfl⟩
  · have hpI : ¬ (p : Int) < (n : Int) := by omega
    have hpd : decide ((p : Int) < (n : Int)) = false := decide_eq_false hpI
    have hm : memV ins p = false := by
      unfold memV; rw [List.getElem?_eq_none (by omega)]; rfl
    rw [hm]
    clear h hn hm
    go_enter Try.func109, Try.ntmps109
    go_wp2
    go_ret
    exact ⟨rfl, rfl⟩

/-- What is left out of a member's row. -/
def outB (ins : List Bool) (a : Nat) (x : Int) : Bool := !memV ins a || !memV ins x.toNat

theorem out_any (W : World) (B n c b1 b2 : Nat) (A : Option Addr) (ins : List Bool) (a : Nat) (x : Int) (hx : 0 ≤ x) (hn : ins.length = n) (h : SlV W B (.slice A n c) (bls ins)) (h1 : W.cell? ⟨b1, 0, none⟩ = some (.slice A n c)) (h2 : W.cell? ⟨b2, 0, none⟩ = some (.int .i64 (a : Int))) :
    Calls Try.prog 108 #[.int .i64 x, .pointer (some ⟨b1, 0, none⟩), .pointer (some ⟨b2, 0, none⟩)] W fun e w' => e = .returned (.bool (outB ins a x)) ∧ ∃ q, w' = W.drewN q := by
  obtain ⟨p, rfl⟩ : ∃ p : Nat, x = (p : Int) := ⟨x.toNat, by omega⟩
  have HA := Lib.hid (mem_any W B n c A ins a hn h)
  have HP := Lib.hid (mem_any W B n c A ins p hn h)
  have HO := Lib.hid (show outB ins a (p : Int) = (!memV ins a || !memV ins p) by unfold outB; rw [Int.toNat_natCast])
  rw [HO.out]
  generalize memV ins a = ma at HA ⊢
  generalize memV ins p = mp at HP ⊢
  clear h hn HO hx
  cases ma
  all_goals
    go_enter Try.func108, Try.ntmps108
    go_wp2_with fail
    refine HA.out.mono ?_
    rintro e w1 ⟨rfl, rfl⟩
    go_wp2_with fail
    first
    | (go_ret; exact ⟨rfl, 0, rfl⟩)
    | (refine HP.out.mono ?_; rintro e w2 ⟨rfl, rfl⟩; go_wp2_with fail; go_ret; exact ⟨by simp, 0, rfl⟩)
end Go.Proofs.Ytlfgnoicjogfpaa.By

namespace Go.Proofs.Ytlfgnoicjogfpaa.By
open Go.RowKit Go.Shelf Go.Sort Go.Lib
open Mem Gm Rf

def encN (n : Nat) : Value := .int .i64 (n : Int)
theorem nats_enc (l : List Nat) : nats l = l.map encN := rfl
/-- The places of a row that stay. -/
def stayN (ins : List Bool) (a : Nat) (l : List Nat) : List Nat := l.filter fun x => !outB ins a (x : Int)

theorem del_none (w : World) (fv : Value) : Calls Try.prog 107 #[.slice none 0 0, fv] w fun e w' => e = .returned (.slice none 0 0) ∧ w' = w := by
  have H := Lib.hid (Try.slices_IndexFunc_empty (α := Nat) none 0 fv w)
  go_enter Try.func107, Try.ntmps107
  go_wp2_with fail
  refine H.out.mono ?_
  rintro e w1 ⟨rfl, rfl⟩
  go_wp2_with fail
  go_ret
  exact ⟨rfl, rfl⟩

/-- What the closure is given: the members, and the place. -/
structure Clo (w : World) (B b1 b2 : Nat) (ins : List Bool) (a : Nat) : Prop where
  ex : ∃ A n c, ins.length = n ∧ SlV w B (.slice A n c) (bls ins) ∧ w.cell? ⟨b1, 0, none⟩ = some (.slice A n c)
  pl : w.cell? ⟨b2, 0, none⟩ = some (.int .i64 (a : Int))

theorem Clo.keep {w w' : World} {B b1 b2 : Nat} {ins : List Bool} {a : Nat} (h : Clo w B b1 b2 ins a) (hk : ∀ p : Addr, (p.block < B ∨ p.block = b1 ∨ p.block = b2) → w'.cell? p = w.cell? p) : Clo w' B b1 b2 ins a := by
  obtain ⟨⟨A, n, c, h1, h2, h3⟩, h4⟩ := h
  exact ⟨⟨A, n, c, h1, h2.keep fun p hp => hk p (.inl hp), (hk _ (.inr (.inl rfl))).trans h3⟩, (hk _ (.inr (.inr rfl))).trans h4⟩

theorem Clo.gives {w : World} {B b1 b2 : Nat} {ins : List Bool} {a : Nat} (h : Clo w B b1 b2 ins a) (x : Nat) : FnGives Try.prog 108 #[.pointer (some ⟨b1, 0, none⟩), .pointer (some ⟨b2, 0, none⟩)] #[encN x] (.bool (outB ins a (x : Int))) w := by
  obtain ⟨⟨A, n, c, h1, h2, h3⟩, h4⟩ := h
  exact out_any w B n c b1 b2 A ins a (x : Int) (by omega) h1 h2 h3 h4

theorem holds_nats {w : World} {g : Nat} {cur : Array Value} {e : TypeId} {ss : List Nat} (hb : w.heap[g]? = some (.cells cur e (0, 0))) (ht : cur.toList.take ss.length = nats ss) : Holds encN w g 0 ss.toArray := by
  have h := holds_of_blockI (ss := ss.map fun (n : Nat) => (n : Int)) hb (by rw [List.length_map, ht]; simp [nats])
  intro j hj
  have hj' : j < ss.length := by simpa using hj
  obtain ⟨h1, h2⟩ := h j (by simpa using hj)
  refine ⟨?_, h2⟩
  rw [h1]
  simp [encN, hj']

theorem stay_le (ins : List Bool) (a : Nat) (l : List Nat) : (stayN ins a l).length ≤ l.length := List.length_filter_le _ _

set_option maxHeartbeats 1000000 in
theorem del_own (w : World) (base B b1 b2 a : Nat) (rv : Value) (ins : List Bool) (l : List Nat) (h : w.ownsRow base 3 1 rv l.length (nats l)) (hc : Clo w B b1 b2 ins a) (hB : B ≤ base) (hb1 : rv.ownBlock ≠ some b1) (hb2 : rv.ownBlock ≠ some b2) (hBw : B ≤ w.heap.size) :
    Calls Try.prog 107 #[rv, .func (.func 108) #[] #[.pointer (some ⟨b1, 0, none⟩), .pointer (some ⟨b2, 0, none⟩)]] w fun e w' => ∃ A c, e = .returned (.slice A (stayN ins a l).length c) ∧ w'.ownsRow base 3 1 (.slice A (stayN ins a l).length c) (stayN ins a l).length (nats (stayN ins a l)) ∧ w.grownBy w' rv.ownBlock ∧ (Value.slice A (stayN ins a l).length c).ownBlock = rv.ownBlock := by
  have h0 := h
  have hl1 : b1 < w.heap.size := by obtain ⟨⟨A, n, c, _, _, h3⟩, _⟩ := hc; exact World.block_lt_of_cell? w _ h3
  have hl2 : b2 < w.heap.size := World.block_lt_of_cell? w _ hc.pl
  rcases h.2 with ⟨rfl, hn⟩ | ⟨g, cap, cur, rfl, hb, hg, hcp, hm, hs, ht⟩
  · refine (del_none w _).mono ?_
    rintro e w' ⟨rfl, rfl⟩
    have : l = [] := List.eq_nil_of_length_eq_zero hn
    subst this
    exact ⟨none, 0, rfl, by simpa [stayN] using h0, ⟨rfl, rfl, rfl, Nat.le_refl _, fun _ _ _ => rfl⟩, rfl⟩
  · rw [Nat.mul_one] at ht
    have hH := holds_nats (ss := l) hg ht
    have hm' := hm
    unfold maxLen at hm'
    have hg1 : g ≠ b1 := fun e => hb1 (by rw [e]; rfl)
    have hg2 : g ≠ b2 := fun e => hb2 (by rw [e]; rfl)
    have hglt := (Array.getElem?_eq_some_iff.1 hg).1
    have hp : PredAt Try.prog 108 #[.pointer (some ⟨b1, 0, none⟩), .pointer (some ⟨b2, 0, none⟩)] encN (fun x => outB ins a (x : Int)) w := fun W x hW =>
      (hc.keep fun p hp => hW.cell (by rcases hp with hp | hp | hp <;> omega)).gives x
    have hpo : PredOver Try.prog 108 #[.pointer (some ⟨b1, 0, none⟩), .pointer (some ⟨b2, 0, none⟩)] encN (fun x => outB ins a (x : Int)) g 0 l.toArray.size w := fun n os dk x _ =>
      (hc.keep fun p hp => by
        unfold sortWorld
        rw [cell?_grow _ _ _ (by show p.block < (putRow _ _ _ _ _).heap.size; rw [size_putRow]; show p.block < w.heap.size; rcases hp with hp | hp | hp <;> omega), cell?_putRow_other _ _ g 0 _ _ (Or.inl (by rcases hp with hp | hp | hp <;> omega))]
        rfl).gives x
    refine (Try.slices_DeleteFunc (α := Nat) encN (fun _ => rfl) (fun x => outB ins a (x : Int)) 108 #[.pointer (some ⟨b1, 0, none⟩), .pointer (some ⟨b2, 0, none⟩)] (enters_of Try.func108 (by kernel_rfl) rfl) 0 Try.zeroValue3 g 0 cap l.toArray w hp hpo hH (by simp; omega) (by simpa using hcp)).mono ?_
    rintro e w' ⟨rfl, q, rfl⟩
    have hle := stay_le ins a l
    refine ⟨some ⟨g, 0, none⟩, cap, rfl, ?_, ?_, rfl⟩
    · have := Lib.ownsRow_putRow (enc := encN) (q := q) (k := (stayN ins a l).length) (ys := stayN ins a l ++ List.replicate (l.length - (stayN ins a l).length) 0) (zs := l) (w := w) h0 (by simp; omega) hle
      rw [List.take_left] at this
      exact this
    · refine ⟨rfl, rfl, rfl, by simp [Sort.ahead], fun k hk hne => ?_⟩
      have : g ≠ k := fun e => hne (by rw [e]; rfl)
      simp [Sort.putRow, Sort.mapBlock, Sort.ahead, Array.getElem?_modify, this]
end Go.Proofs.Ytlfgnoicjogfpaa.By
