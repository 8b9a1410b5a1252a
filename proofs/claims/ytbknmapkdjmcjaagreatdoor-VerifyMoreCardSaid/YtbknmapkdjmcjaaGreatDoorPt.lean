/-
  WALK: octet.Put (function 21): a new row of the call's own: what was handed in, and behind it the number's lowest bytes, the highest first.
-/
import Derived.Test.YtbknmapkdjmcjaaGreatDoorCc
import Derived.Laws.EntriesVeiled
namespace Go.Proofs.YtbknmapkdjmcjaaGreatDoor.By
open Go.ChangeShapes Go.WideShapes Go.ChangeAt Go.RowKit
open Mem

/-- The lowest byte of a number. -/
def byteI (n : Int) : UInt8 := UInt8.ofNat (n % 256).toNat

/-- The lowest k bytes of a number, the highest first. -/
def be (n : Int) : Nat → List UInt8
  | 0 => []
  | k + 1 => be (n / 256) k ++ [byteI n]

/-- What Put lays behind: none, if there is no such width. -/
def putB (n k : Int) : List UInt8 := if 1 ≤ k ∧ k ≤ 8 then be n k.toNat else []

theorem be_length (k : Nat) : ∀ n : Int, (be n k).length = k := by
  induction k with
  | zero => intro n; rfl
  | succ k ih => intro n; simp [be, ih]

theorem putB_length (n k : Int) : (putB n k).length ≤ 8 := by
  unfold putB
  split
  · rw [be_length]; omega
  · simp

theorem byteI_toNat (n : Int) : ((byteI n).toNat : Int) = n % 256 := by
  unfold byteI
  have h : (n % 256).toNat < 256 := by omega
  simp
  omega

def cells8 (n : Int) : List Value :=
  [.int .u8 (n / 256 / 256 / 256 / 256 / 256 / 256 / 256 % 256), .int .u8 (n / 256 / 256 / 256 / 256 / 256 / 256 % 256), .int .u8 (n / 256 / 256 / 256 / 256 / 256 % 256),
   .int .u8 (n / 256 / 256 / 256 / 256 % 256), .int .u8 (n / 256 / 256 / 256 % 256), .int .u8 (n / 256 / 256 % 256), .int .u8 (n / 256 % 256), .int .u8 (n % 256)]

theorem cells8_drop (n : Int) (k : Nat) (h1 : 1 ≤ k) (hk : k ≤ 8) : (cells8 n).drop (8 - k) = u8s (be n k) := by
  have h : k = 1 ∨ k = 2 ∨ k = 3 ∨ k = 4 ∨ k = 5 ∨ k = 6 ∨ k = 7 ∨ k = 8 := by omega
  rcases h with rfl | rfl | rfl | rfl | rfl | rfl | rfl | rfl <;> simp [cells8, u8s, be, byteI_toNat]

theorem arr63 : Tryz.prog.underlying 236 = some (.array (Tryz.prog.arrayLen 236) (Tryz.prog.elem 236)) := by kernel_rfl
theorem len63 : Tryz.prog.arrayLen 236 = 8 := by kernel_rfl
theorem size63 (W : World) : (sizeOf (Tryz.prog.elem 236)).run Tryz.prog W = .ok 1 W := by kernel_rfl

theorem cut_all (g k : Nat) (h1 : 1 ≤ (k : Int)) (hk : (k : Int) ≤ 8) (W : World) :
    (Instr.sliceAt 236 (.pointer (some ⟨g, 0, none⟩)) (some (.int .i64 (8 - (k : Int)))) none none).run Tryz.prog W = .ok (.slice (some ⟨g, 8 - k, none⟩) k k) W := by
  rw [run_sliceAt_array_l W 236 _ arr63 .i64 (8 - (k : Int)) (by omega) (by rw [len63]; omega), size63, len63]
  have e : (8 - (k : Int)).toNat = 8 - k := by omega
  simp only [Result.andThen, slicedAt, e]
  rw [if_neg (by omega), Mem.add_plain]
  have e2 : 8 - (8 - k) = k := by omega
  simp [e2]

theorem cut_none (g : Nat) (W : World) :
    (Instr.sliceAt 236 (.pointer (some ⟨g, 0, none⟩)) (some (.int .i64 8)) none none).run Tryz.prog W = .ok (.slice (some ⟨g, 0, none⟩) 0 0) W := by
  rw [run_sliceAt_array_l W 236 _ arr63 .i64 8 (by omega) (by rw [len63]; omega), size63, len63]
  simp [Result.andThen, slicedAt]

theorem own_base {w : World} {base base' : Nat} {e : TypeId} {size n : Nat} {v : Value} {vs : List Value} (h : w.ownsRow base e size v n vs) (hb : base' ≤ base) : w.ownsRow base' e size v n vs := by
  refine ⟨h.1, ?_⟩
  rcases h.2 with h0 | ⟨g, cap, cur, a, b, c⟩
  · exact .inl h0
  · exact .inr ⟨g, cap, cur, a, Nat.le_trans hb b, c⟩

theorem Owns.back {w W w' : World} {vs : List Value} {e : Ending} (h : Owns W vs e w') (hb : Below w.heap.size w W) : Owns w vs e w' := by
  obtain ⟨v, he, hown, hb2⟩ := h
  exact ⟨v, he, own_base hown hb.size, hb.trans (hb2.mono hb.size)⟩

/-- The two parts that Put lays behind one another, in a world that holds them. -/
theorem concat_two (g g2 : Nat) (A : Option Addr) (c : Nat) (vs : List Value) (ad : Addr) (k : Nat) (us : List Value) (W : World)
    (hblk : Blk W g 35 #[.slice A vs.length c, .slice (some ad) k k]) (hp1 : SlV W g2 (.slice A vs.length c) vs) (hp2 : Row W g2 ad us) (hk : us.length = k) (hg : g2 ≤ W.heap.size)
    (h1 : ∀ u ∈ vs, u.oneCell' = true) (h2 : ∀ u ∈ us, u.oneCell' = true) (hl : vs.length + k ≤ 1099511627776) :
    Calls Tryz.prog 68 #[.slice (some ⟨g, 0, none⟩) 2 2] W (Owns W (vs ++ us)) := by
  subst hk
  have h := concat_any g g2 [(A, c, vs), (some ad, us.length, us)] W (fun i hi => by
      have : i = 0 ∨ i = 1 := by simp at hi; omega
      rcases this with rfl | rfl <;> · rw [hblk.cell]; rfl) hg
    (fun p hp => by
      rcases List.mem_cons.1 hp with rfl | hp
      · exact hp1
      · rcases List.mem_cons.1 hp with rfl | hp
        · exact .at_ ad us.length us (Nat.le_refl _) (by unfold maxLen; omega) hp2
        · cases hp)
    (fun p hp => by
      rcases List.mem_cons.1 hp with rfl | hp
      · exact h1
      · rcases List.mem_cons.1 hp with rfl | hp
        · exact h2
        · cases hp)
    (by simp [flat]; omega) (by simp)
  simpa [flat] using h

set_option maxHeartbeats 1000000 in
theorem put_no (A : Option Addr) (c : Nat) (vs : List Value) (n k : Int) (w : World) (h : SlV w w.heap.size (.slice A vs.length c) vs) (h1 : ∀ u ∈ vs, u.oneCell' = true) (hl : vs.length ≤ 1099511627000)
   (hk : k < 1 ∨ 8 < k) :
    Calls Tryz.prog 150 #[.slice A vs.length c, .int .i64 n, .int .i64 k] w (Owns w vs) := by
  have hW : Below w.heap.size w ((w.alloc (.cells (cells8 n).toArray 236)).alloc (.cells #[.slice A vs.length c, .slice (some ⟨w.heap.size, 0, none⟩) 0 0] 35)) :=
    ((Below.refl _ _).alloc (Nat.le_refl _) _).alloc (by simp) _
  have hc := concat_two (w.heap.size + 1) (w.heap.size + 1) A c vs ⟨w.heap.size, 0, none⟩ 0 [] ((w.alloc (.cells (cells8 n).toArray 236)).alloc (.cells #[.slice A vs.length c, .slice (some ⟨w.heap.size, 0, none⟩) 0 0] 35))
    (by simpa using Blk.new (w.alloc (.cells (cells8 n).toArray 236)) 35 #[.slice A vs.length c, .slice (some ⟨w.heap.size, 0, none⟩) 0 0])
    ((h.below hW).more (by omega)) (fun j u hu => by simp at hu) rfl (by simp) h1 (by simp) (by omega)
  have HW := Lib.hid hW
  have HC := Lib.hid (hc.mono fun e w' ho => ho.back HW.out)
  clear hc h h1 hW
  rw [List.append_nil] at HC
  generalize vs.length = m at HC hl ⊢
  have hcut := cut_none
  rcases hk with hk | hk
  · have hd : decide (1 ≤ k) = false := by simp; omega
    go_enter Tryz.func150, Tryz.ntmps150
    go_wp2
    refine wp_loop_rounds 9 ?_
    repeat (rw [rounds_succ]; go_wp2_with fail)
    refine HC.out.mono ?_
    rintro e w1 ⟨v1, rfl, hown, hb⟩
    go_wp2
    go_ret
    exact ⟨v1, rfl, hown, hb⟩
  · have h0 : 1 ≤ k := by omega
    have hd : decide (k ≤ 8) = false := by simp; omega
    go_enter Tryz.func150, Tryz.ntmps150
    go_wp2
    refine wp_loop_rounds 9 ?_
    repeat (rw [rounds_succ]; go_wp2_with fail)
    refine HC.out.mono ?_
    rintro e w1 ⟨v1, rfl, hown, hb⟩
    go_wp2
    go_ret
    exact ⟨v1, rfl, hown, hb⟩

set_option maxHeartbeats 1000000 in
theorem put_yes (A : Option Addr) (c : Nat) (vs : List Value) (n : Int) (k : Nat) (w : World) (h : SlV w w.heap.size (.slice A vs.length c) vs) (h1 : ∀ u ∈ vs, u.oneCell' = true) (hl : vs.length ≤ 1099511627000)
   (hk0 : 1 ≤ (k : Int)) (hk : (k : Int) ≤ 8) :
    Calls Tryz.prog 150 #[.slice A vs.length c, .int .i64 n, .int .i64 k] w (Owns w (vs ++ u8s (be n k))) := by
  have hW : Below w.heap.size w ((w.alloc (.cells (cells8 n).toArray 236)).alloc (.cells #[.slice A vs.length c, .slice (some ⟨w.heap.size, 8 - k, none⟩) k k] 35)) :=
    ((Below.refl _ _).alloc (Nat.le_refl _) _).alloc (by simp) _
  have hb1 : Blk ((w.alloc (.cells (cells8 n).toArray 236)).alloc (.cells #[.slice A vs.length c, .slice (some ⟨w.heap.size, 8 - k, none⟩) k k] 35)) w.heap.size 236 (cells8 n).toArray := (Blk.new w 236 (cells8 n).toArray).alloc _
  have hr : Row ((w.alloc (.cells (cells8 n).toArray 236)).alloc (.cells #[.slice A vs.length c, .slice (some ⟨w.heap.size, 8 - k, none⟩) k k] 35)) (w.heap.size + 1) ⟨w.heap.size, 0, none⟩ (cells8 n) := fun j u hu => by
    refine ⟨by simp, ?_⟩
    rw [Mem.add_plain, Nat.zero_add, hb1.cell]
    simpa using hu
  have hr2 := hr.drop (8 - k)
  rw [Mem.add_plain, Nat.zero_add, cells8_drop n k (by omega) (by omega)] at hr2
  have hc := concat_two (w.heap.size + 1) (w.heap.size + 1) A c vs ⟨w.heap.size, 8 - k, none⟩ k (u8s (be n k)) _
    (by simpa using Blk.new (w.alloc (.cells (cells8 n).toArray 236)) 35 #[.slice A vs.length c, .slice (some ⟨w.heap.size, 8 - k, none⟩) k k])
    ((h.below hW).more (by omega)) hr2 (by rw [u8s_length, be_length]) (by simp) h1 (u8s_one _) (by omega)
  have HW := Lib.hid hW
  have HC := Lib.hid (hc.mono fun e w' ho => ho.back HW.out)
  clear hc h h1 hW hb1 hr hr2
  generalize vs.length = m at HC hl ⊢
  have hcut := fun g W => cut_all g k hk0 hk W
  go_enter Tryz.func150, Tryz.ntmps150
  go_wp2
  refine wp_loop_rounds 9 ?_
  repeat (rw [rounds_succ]; go_wp2_with fail)
  refine HC.out.mono ?_
  rintro e w1 ⟨v1, rfl, hown, hb⟩
  go_wp2
  go_ret
  exact ⟨v1, rfl, hown, hb⟩

/-- octet.Put, whatever the width. -/
theorem put_any (v : Value) (vs : List Value) (n k : Int) (w : World) (h : SlV w w.heap.size v vs) (h1 : ∀ u ∈ vs, u.oneCell' = true) (hl : vs.length ≤ 1099511627000) :
    Calls Tryz.prog 150 #[v, .int .i64 n, .int .i64 k] w (Owns w (vs ++ u8s (putB n k))) := by
  have hv : ∃ A c, v = .slice A vs.length c := by
    cases h with
    | nil => exact ⟨none, 0, rfl⟩
    | at_ ad cap _ _ _ _ => exact ⟨_, _, rfl⟩
  obtain ⟨A, c, rfl⟩ := hv
  unfold putB
  by_cases hk : 1 ≤ k ∧ k ≤ 8
  · rw [if_pos hk]
    obtain ⟨j, rfl⟩ := Int.eq_ofNat_of_zero_le (show 0 ≤ k by omega)
    exact put_yes A c vs n j w h h1 hl hk.1 hk.2
  · rw [if_neg hk]
    have := put_no A c vs n k w h h1 hl (by omega)
    simpa [u8s] using this
end Go.Proofs.YtbknmapkdjmcjaaGreatDoor.By
