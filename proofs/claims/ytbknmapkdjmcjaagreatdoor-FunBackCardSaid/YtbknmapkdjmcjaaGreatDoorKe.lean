/-
  FUN: what is put is got (Ka, Kb, Kc, Kd in one): fun_back, fun_short, putF_own, FunBack.
-/
import Derived.Test.YtbknmapkdjmcjaaGreatDoorJe
import Derived.Test.YtbknmapkdjmcjaaGreatDoorJm
import Derived.Test.YtbknmapkdjmcjaaGreatDoorJa
import Derived.Test.YtbknmapkdjmcjaaGreatDoorJw

namespace Go.Proofs.YtbknmapkdjmcjaaGreatDoor.By
open Go.RowKit
open Mem Gm Rf
set_option linter.unusedSimpArgs false
set_option linter.unusedVariables false

theorem nat_step (n : Int) (k : Nat) : (natV (be n (k + 1)) : Int) = (natV (be (n / 256) k) : Int) * 256 + n % 256 := by
  have := byteI_toNat n
  rw [be, natV_snoc, Int.natCast_add, Int.natCast_mul, this]; rfl
theorem nat_zero (n : Int) : (natV (be n 0) : Int) = 0 := rfl
theorem num_1 (n : Int) (h : 0 ≤ n ∧ n ≤ 255) : numV false (be n 1) = n := by
  have h1 := nat_step n 0
  rw [nat_zero] at h1
  show numV false [byteI n] = n
  rw [numV_plain]
  show wrap64 (natV (be n 1)) = n
  rw [h1, wrap_in _ (by omega)]; omega
theorem num_2 (n : Int) (h : 0 ≤ n ∧ n ≤ 65535) : numV false (be n 2) = n := by
  have e : (natV (be n 2) : Int) = n % 65536 := by
    rw [nat_step, nat_step, nat_zero]; omega
  obtain ⟨x, r, hx⟩ : ∃ x r, be n 2 = x :: r := by
    cases hq : be n 2 with
    | nil => have := be_length 2 n; rw [hq] at this; simp at this
    | cons x r => exact ⟨x, r, rfl⟩
  rw [hx, numV_plain, ← hx, e]
  unfold wrap64; omega
theorem read_put {l r : List UInt8} {p k : Nat} {n : Int} (hk : 1 ≤ k ∧ k ≤ 8) (h : l.drop p = putB n k ++ r) (hn : numV false (be n k) = n) :
    rvS l (p, true) k = n ∧ pgS l (p, true) k = (p + k, true) ∧ l.drop (p + k) = r := by
  have hp : putB n k = be n k := by unfold putB; rw [if_pos (by omega), Int.toNat_natCast]
  rw [hp] at h
  have hlen := congrArg List.length h
  rw [List.length_drop, List.length_append, be_length] at hlen
  have hf : fitsB l p true k = true := by unfold fitsB; rw [Bool.true_and, decide_eq_true_eq]; omega
  refine ⟨?_, ?_, ?_⟩
  · unfold rvS readV
    rw [if_pos hf, Int.toNat_natCast, h, List.take_left' (be_length _ _), hn]
  · unfold pgS readP
    rw [if_pos hf, Int.toNat_natCast, hf]
  · rw [← List.drop_drop, h, List.drop_left' (be_length _ _)]
/-- A reader that is good, at p. -/
abbrev Gp (p : Nat) : Sw := ((p, true), 0)
theorem wd_put {l r : List UInt8} {p k : Nat} {n : Int} (hk : 1 ≤ k ∧ k ≤ 8) (h : l.drop p = putB n k ++ r) (hn : numV false (be n k) = n) :
    nvS l (Gp p) k = n ∧ wdS l (Gp p) k = Gp (p + k) ∧ l.drop (p + k) = r := by
  obtain ⟨h1, h2, h3⟩ := read_put hk h hn
  refine ⟨h1, ?_, h3⟩
  unfold wdS
  dsimp only
  rw [h2, if_pos rfl]
theorem wd_one {l r : List UInt8} {p : Nat} {n : Int} (h : l.drop p = putB n 1 ++ r) (hn : 0 ≤ n ∧ n ≤ 255) : nvS l (Gp p) 1 = n ∧ wdS l (Gp p) 1 = Gp (p + 1) ∧ l.drop (p + 1) = r := wd_put (k := 1) (by omega) h (num_1 n hn)
theorem wd_two {l r : List UInt8} {p : Nat} {n : Int} (h : l.drop p = putB n 2 ++ r) (hn : 0 ≤ n ∧ n ≤ 65535) : nvS l (Gp p) 2 = n ∧ wdS l (Gp p) 2 = Gp (p + 2) ∧ l.drop (p + 2) = r := wd_put (k := 2) (by omega) h (num_2 n hn)
theorem fg_put {l r : List UInt8} {p : Nat} {b : Bool} (h : l.drop p = putB (fl b) 1 ++ r) : fgV l (Gp p) = b ∧ fgS l (Gp p) = Gp (p + 1) ∧ l.drop (p + 1) = r := by
  obtain ⟨h1, h2, h3⟩ := wd_one h (by unfold fl; split <;> omega)
  refine ⟨?_, ?_, h3⟩
  · unfold fgV; rw [h1]; cases b <;> rfl
  · unfold fgS; rw [h1, if_neg (by unfold fl; split <;> omega), h2]
theorem ln_put {l r : List UInt8} {p : Nat} {x : Ln} (h : l.drop p = lnB x ++ r) (hx : (0 ≤ x.1 ∧ x.1 ≤ 255) ∧ 0 ≤ x.2 ∧ x.2 ≤ 65535) : lnV l (Gp p) = x ∧ lnS l (Gp p) = Gp (p + 3) ∧ l.drop (p + 3) = r := by
  unfold lnB at h
  rw [List.append_assoc] at h
  obtain ⟨a1, a2, a3⟩ := wd_one h hx.1
  obtain ⟨b1, b2, b3⟩ := wd_two a3 hx.2
  unfold lnV lnS
  rw [a1, a2, b1, b2]
  exact ⟨rfl, rfl, b3⟩
theorem rf_put {l r : List UInt8} {p : Nat} {x : Rl} (h : l.drop p = rlB x ++ r) (hx : (0 ≤ x.1 ∧ x.1 ≤ 255) ∧ 0 ≤ x.2.1 ∧ x.2.1 ≤ 255) : rfV l (Gp p) = x ∧ rfS l (Gp p) = Gp (p + 3) ∧ l.drop (p + 3) = r := by
  unfold rlB at h
  rw [List.append_assoc, List.append_assoc] at h
  obtain ⟨a1, a2, a3⟩ := wd_one h hx.1
  obtain ⟨b1, b2, b3⟩ := wd_one a3 hx.2
  obtain ⟨c1, c2, c3⟩ := fg_put b3
  unfold rfV rfS
  rw [a1, a2, b1, b2, c1, c2]
  exact ⟨rfl, rfl, c3⟩

theorem itS_cons (f : Sw → Sw) : ∀ (k : Nat) (q : Sw), itS f (k + 1) q = itS f k (f q)
  | 0, q => rfl
  | k + 1, q => by rw [itS, itS_cons f k q]; rfl
theorem vls_cons {α : Type} (v : Sw → α) (f : Sw → Sw) (k : Nat) (q : Sw) : vls v f (k + 1) q = v q :: vls v f k (f q) := by
  unfold vls
  rw [List.range_succ_eq_map, List.map_cons, List.map_map]
  congr 1
  exact List.map_congr_left fun i _ => by rw [Function.comp_apply, Nat.succ_eq_add_one, itS_cons]
theorem vls_back {α : Type} {l : List UInt8} (v : Sw → α) (f : Sw → Sw) (B : α → List UInt8) (m : Nat) (ok : α → Prop) (hs : ∀ (p : Nat) (x : α) (r : List UInt8), ok x → l.drop p = B x ++ r → v (Gp p) = x ∧ f (Gp p) = Gp (p + m) ∧ l.drop (p + m) = r) :
    ∀ (xs : List α) (p : Nat) (r : List UInt8), (∀ x ∈ xs, ok x) → l.drop p = xs.flatMap B ++ r → vls v f xs.length (Gp p) = xs ∧ itS f xs.length (Gp p) = Gp (p + m * xs.length) ∧ l.drop (p + m * xs.length) = r
  | [], p, r, _, h => ⟨rfl, rfl, h⟩
  | x :: xs, p, r, hk, h => by
    rw [List.flatMap_cons, List.append_assoc] at h
    obtain ⟨a1, a2, a3⟩ := hs p x _ (hk x (by simp)) h
    obtain ⟨b1, b2, b3⟩ := vls_back v f B m ok hs xs (p + m) r (fun y hy => hk y (by simp [hy])) a3
    have e : p + m + m * xs.length = p + m * (x :: xs).length := by rw [List.length_cons, Nat.mul_add]; omega
    rw [← e, List.length_cons, vls_cons, itS_cons, a1, a2, b1]
    exact ⟨rfl, b2, b3⟩
theorem sev_back {α : Type} {l : List UInt8} (v : List UInt8 → Sw → α) (f : List UInt8 → Sw → Sw) (B : α → List UInt8) (m : Nat) (ok : α → Prop) (hs : ∀ (p : Nat) (x : α) (r : List UInt8), ok x → l.drop p = B x ++ r → v l (Gp p) = x ∧ f l (Gp p) = Gp (p + m) ∧ l.drop (p + m) = r)
    (xs : List α) (p : Nat) (r : List UInt8) (hl : xs.length ≤ 255) (hk : ∀ x ∈ xs, ok x) (h : l.drop p = putB (xs.length : Int) 1 ++ (xs.flatMap B ++ r)) :
    sevV v f l (Gp p) = xs ∧ sevS f l (Gp p) = Gp (p + 1 + m * xs.length) ∧ l.drop (p + 1 + m * xs.length) = r := by
  obtain ⟨a1, a2, a3⟩ := wd_one h (by omega)
  have := vls_back (v l) (f l) B m ok hs xs (p + 1) r hk a3
  unfold sevV sevS
  rw [a1, a2, Int.toNat_natCast]
  exact this

theorem ch_zero {o a b c n : Int} (h : chV o a b c n = 0) : (1 ≤ o ∧ o ≤ 28) ∧ ∀ k, k < 4 → inV a b c n k := by
  unfold chV at h
  split at h
  · cases h
  · rename_i h1
    split at h
    · rename_i h2
      exact ⟨by simpa using h1, h2⟩
    · cases h

theorem byte_in (x : Int) (h : 0 ≤ x ∧ x ≤ 255) : ((byteI x).toNat : Int) = x := by rw [byteI_toNat]; omega

theorem natV_four (x y z u : UInt8) : ((natV [x, y, z, u] : Nat) : Int) = (x.toNat : Int) * 16777216 + (y.toNat : Int) * 65536 + (z.toNat : Int) * 256 + (u.toNat : Int) := by
  generalize hx : x.toNat = x'
  generalize hy : y.toNat = y'
  generalize hz : z.toNat = z'
  generalize hu : u.toNat = u'
  have : natV [x, y, z, u] = (((0 * 256 + x') * 256 + y') * 256 + z') * 256 + u' := by
    unfold natV
    simp only [List.foldl_cons, List.foldl_nil, hx, hy, hz, hu]
  rw [this]
  omega

theorem sign_four (x y z u : UInt8) (n : Int) (h : -2147483648 ≤ n ∧ n ≤ 2147483647) (hx : (x.toNat : Int) = n / 256 / 256 / 256 % 256) (hy : (y.toNat : Int) = n / 256 / 256 % 256) (hz : (z.toNat : Int) = n / 256 % 256) (hu : (u.toNat : Int) = n % 256) :
    numV true [x, y, z, u] = n := by
  rw [numV_sign, natV_four, hx, hy, hz, hu]
  have h5 : (256 : Int) ^ 4 = 4294967296 := by decide +kernel
  have h4 : (256 : Int) ^ (List.length [y, z, u] + 1) = 4294967296 := h5
  clear h5
  by_cases h128 : 128 ≤ x.toNat
  · rw [if_pos h128, h4, wrap_in _ (by omega)]
    omega
  · rw [if_neg h128, wrap_in _ (by omega)]
    omega

theorem num_four (n : Int) (h : -2147483648 ≤ n ∧ n ≤ 2147483647) : numV true [byteI (n / 256 / 256 / 256), byteI (n / 256 / 256), byteI (n / 256), byteI n] = n := by
  exact sign_four _ _ _ _ n h (byteI_toNat _) (byteI_toNat _) (byteI_toNat _) (byteI_toNat _)

theorem in_put {l r : List UInt8} {p : Nat} {x : In5} (h : l.drop p = inB x ++ r) (hx : chV x.1 x.2.1 x.2.2.1 x.2.2.2.1 x.2.2.2.2 = 0) : inV5 l (Gp p) = x ∧ inS5 l (Gp p) = Gp (p + 8) ∧ l.drop (p + 8) = r := by
  obtain ⟨o, a, b, c, n⟩ := x
  dsimp only at hx
  have h0 : l.drop p = putB o 1 ++ (putB a 1 ++ (putB b 1 ++ (putB c 1 ++ (putB n 4 ++ r)))) := by
    rw [h]
    show ((((putB o 1 ++ putB a 1) ++ putB b 1) ++ putB c 1) ++ putB n 4) ++ r = _
    simp only [List.append_assoc]
  obtain ⟨ho, hk⟩ := ch_zero hx
  have ha : 0 ≤ a ∧ a ≤ 255 := hk 0 (by omega)
  have hb : 0 ≤ b ∧ b ≤ 255 := hk 1 (by omega)
  have hc : 0 ≤ c ∧ c ≤ 255 := hk 2 (by omega)
  have hn : -2147483648 ≤ n ∧ n ≤ 2147483647 := hk 3 (by omega)
  obtain ⟨a1, a2, a3⟩ := wd_one h0 (by omega)
  obtain ⟨b1, b2, b3⟩ := wd_one a3 ha
  obtain ⟨c1, c2, c3⟩ := wd_one b3 hb
  obtain ⟨d1, d2, d3⟩ := wd_one c3 hc
  have e4 : putB n 4 = [byteI (n / 256 / 256 / 256), byteI (n / 256 / 256), byteI (n / 256), byteI n] := by unfold putB; rw [if_pos (by omega)]; rfl
  rw [e4] at d3
  have hlen := congrArg List.length d3
  rw [List.length_drop, List.length_append] at hlen
  have hl4 : [byteI (n / 256 / 256 / 256), byteI (n / 256 / 256), byteI (n / 256), byteI n].length = 4 := rfl
  rw [hl4] at hlen
  have f8 : fitsB l p true 8 = true := by unfold fitsB; rw [Bool.true_and, decide_eq_true_eq]; omega
  have f4 : fitsB l (p + 4) true 4 = true := by unfold fitsB; rw [Bool.true_and, decide_eq_true_eq]; omega
  have r0 : xrO l p = o := a1
  have r1 : xrA l p = a := b1
  have r2 : xrB l p = b := c1
  have r3 : xrC l p = c := d1
  have r4 : xrN l p = n := by
    show readV true l (p + 4) true 4 = n
    unfold readV
    rw [if_pos f4, show l.drop (p + 4) = _ from d3]
    show numV true [byteI (n / 256 / 256 / 256), byteI (n / 256 / 256), byteI (n / 256), byteI n] = n
    exact num_four n hn
  have hp8 : pgS l (p, true) 8 = (p + 8, true) := by unfold pgS readP; dsimp only; rw [if_pos f8, f8]; rfl
  unfold inV5 inS5 gotE
  dsimp only
  rw [r0, r1, r2, r3, r4, hx, if_pos ⟨f8, rfl⟩, if_pos f8, hp8]
  refine ⟨rfl, rfl, ?_⟩
  rw [show p + 8 = (p + 4) + 4 by omega, ← List.drop_drop, show l.drop (p + 4) = _ from d3]
  rfl

/-- What a function is whose numbers have room. -/
def Rm16 (x : Fn) : Prop :=
  (0 ≤ x.k ∧ x.k ≤ 255) ∧ (x.ks.length ≤ 255 ∧ ∀ z ∈ x.ks, 0 ≤ z ∧ z ≤ 255) ∧ (0 ≤ x.pd ∧ x.pd ≤ 65535) ∧ (0 ≤ x.f ∧ x.f ≤ 255) ∧ (0 ≤ x.t ∧ x.t ≤ 255) ∧
  (x.ls.length ≤ 255 ∧ ∀ y ∈ x.ls, (0 ≤ y.1 ∧ y.1 ≤ 255) ∧ 0 ≤ y.2 ∧ y.2 ≤ 65535) ∧ (x.cs.length ≤ 255 ∧ ∀ y ∈ x.cs, chV y.1 y.2.1 y.2.2.1 y.2.2.2.1 y.2.2.2.2 = 0) ∧ (x.rs.length ≤ 255 ∧ ∀ y ∈ x.rs, (0 ≤ y.1 ∧ y.1 ≤ 255) ∧ 0 ≤ y.2.1 ∧ y.2.1 ≤ 255)
/-- What was put is got, and what lies behind stays. -/
theorem fun_back (x : Fn) (tl : List UInt8) (h : Rm16 x) : geV (fnB x ++ tl) (0, true) = x ∧ geE (fnB x ++ tl) (0, true) = 0 ∧ geS (fnB x ++ tl) (0, true) = ((fnB x).length, true) := by
  obtain ⟨k0, ks, pd, ns, f0, t0, ls, cs, rs⟩ := x
  obtain ⟨hk, ⟨hkl, hks⟩, hp, hf, ht, ⟨hll, hls⟩, ⟨hcl, hcs⟩, hrl, hrs⟩ := h
  dsimp only at hk hkl hks hp hf ht hll hls hcl hcs hrl hrs
  obtain ⟨l, hl⟩ : ∃ l, fnB ⟨k0, ks, pd, ns, f0, t0, ls, cs, rs⟩ ++ tl = l := ⟨_, rfl⟩
  have h0 : l.drop 0 = putB k0 1 ++ (putB (ks.length : Int) 1 ++ (ks.flatMap (fun n => putB n 1) ++ (putB pd 2 ++ (putB (fl ns) 1 ++ (putB f0 1 ++ (putB t0 1 ++ (putB (ls.length : Int) 1 ++ (ls.flatMap lnB ++ (putB (cs.length : Int) 1 ++ (cs.flatMap inB ++ (putB (rs.length : Int) 1 ++ (rs.flatMap rlB ++ tl)))))))))))) := by
    rw [← hl]; unfold fnB ksB lnsB insLB rlsB; simp only [List.drop_zero, List.append_assoc]
  have hlen : (fnB ⟨k0, ks, pd, ns, f0, t0, ls, cs, rs⟩).length = 0 + 1 + 1 + 1 * ks.length + 2 + 1 + 1 + 1 + 1 + 3 * ls.length + 1 + 8 * cs.length + 1 + 3 * rs.length := by
    unfold fnB
    simp only [List.length_append, putB1, putB2, ksB_len, lnsB_len, insLB_len, rlsB_len]; omega
  rw [hl]
  obtain ⟨a1, a2, a3⟩ := wd_one h0 hk
  obtain ⟨b1, b2, b3⟩ := sev_back nmV1 nmS1 (fun n => putB n 1) 1 (fun z => 0 ≤ z ∧ z ≤ 255) (fun p x r hx hd => wd_one hd hx) ks _ _ hkl hks a3
  obtain ⟨c1, c2, c3⟩ := wd_two b3 hp
  obtain ⟨d1, d2, d3⟩ := fg_put c3
  obtain ⟨e1, e2, e3⟩ := wd_one d3 hf
  obtain ⟨g1, g2, g3⟩ := wd_one e3 ht
  obtain ⟨i1, i2, i3⟩ := sev_back lnV lnS lnB 3 (fun y => (0 ≤ y.1 ∧ y.1 ≤ 255) ∧ 0 ≤ y.2 ∧ y.2 ≤ 65535) (fun p x r hx hd => ln_put hd hx) ls _ _ hll hls g3
  obtain ⟨j1, j2, j3⟩ := sev_back inV5 inS5 inB 8 (fun y => chV y.1 y.2.1 y.2.2.1 y.2.2.2.1 y.2.2.2.2 = 0) (fun p x r hx hd => in_put hd hx) cs _ _ hcl hcs i3
  obtain ⟨m1, m2, m3⟩ := sev_back rfV rfS rlB 3 (fun y => (0 ≤ y.1 ∧ y.1 ≤ 255) ∧ 0 ≤ y.2.1 ∧ y.2.1 ≤ 255) (fun p x r hx hd => rf_put hd hx) rs _ _ hrl hrs j3
  have q1 : fq1 l (Gp 0) = Gp (0 + 1) := a2
  have q2 : fq2 l (Gp 0) = Gp (0 + 1 + 1 + 1 * ks.length) := by unfold fq2; rw [q1, b2]
  have q3 : fq3 l (Gp 0) = Gp (0 + 1 + 1 + 1 * ks.length + 2) := by unfold fq3; rw [q2, c2]
  have q4 : fq4 l (Gp 0) = Gp (0 + 1 + 1 + 1 * ks.length + 2 + 1) := by unfold fq4; rw [q3, d2]
  have q5 : fq5 l (Gp 0) = Gp (0 + 1 + 1 + 1 * ks.length + 2 + 1 + 1) := by unfold fq5; rw [q4, e2]
  have q6 : fq6 l (Gp 0) = Gp (0 + 1 + 1 + 1 * ks.length + 2 + 1 + 1 + 1) := by unfold fq6; rw [q5, g2]
  have q7 : fq7 l (Gp 0) = Gp (0 + 1 + 1 + 1 * ks.length + 2 + 1 + 1 + 1 + 1 + 3 * ls.length) := by unfold fq7; rw [q6, i2]
  have q8 : fq8 l (Gp 0) = Gp (0 + 1 + 1 + 1 * ks.length + 2 + 1 + 1 + 1 + 1 + 3 * ls.length + 1 + 8 * cs.length) := by unfold fq8; rw [q7, j2]
  have q9 : fq9 l (Gp 0) = Gp (0 + 1 + 1 + 1 * ks.length + 2 + 1 + 1 + 1 + 1 + 3 * ls.length + 1 + 8 * cs.length + 1 + 3 * rs.length) := by unfold fq9; rw [q8, m2]
  have hv : fuV l (Gp 0) = ⟨k0, ks, pd, ns, f0, t0, ls, cs, rs⟩ := by
    unfold fuV
    rw [q1, q2, q3, q4, q5, q6, q7, q8, a1, b1, c1, d1, e1, g1, i1, j1, m1]
  refine ⟨?_, ?_, ?_⟩
  · unfold geV; rw [q9, if_pos rfl]; exact hv
  · unfold geE; rw [q9]
  · unfold geS; rw [q9, hlen]

theorem ris_in {m : Int} : ∀ {l : List Int} {z : Int}, risB m z l = true → (∀ a ∈ l, z < a ∧ a < m) ∧ (l.length : Int) ≤ max 0 (m - z - 1)
  | [], z, h => ⟨fun a ha => by simp at ha, by simp; omega⟩
  | a :: r, z, h => by
    rw [risB, Bool.and_eq_true, Bool.and_eq_true, decide_eq_true_eq, decide_eq_true_eq] at h
    obtain ⟨⟨h1, h2⟩, h3⟩ := h
    obtain ⟨i1, i2⟩ := ris_in h3
    refine ⟨fun b hb => ?_, by rw [List.length_cons]; omega⟩
    rcases List.mem_cons.1 hb with rfl | hb
    · exact ⟨h1, h2⟩
    · have := i1 b hb; omega
theorem cod_ok : ∀ {l : List In5}, codL l = 0 → ∀ y ∈ l, chV y.1 y.2.1 y.2.2.1 y.2.2.2.1 y.2.2.2.2 = 0
  | [], _, y, hy => by simp at hy
  | x :: r, h, y, hy => by
    rw [codL] at h
    by_cases hx : chV x.1 x.2.1 x.2.2.1 x.2.2.2.1 x.2.2.2.2 = 0
    · rw [if_neg (by simp [hx])] at h
      by_cases ho : ownV x.1 = false
      · rw [if_pos ho] at h; omega
      · rw [if_neg ho] at h
        rcases List.mem_cons.1 hy with rfl | hy
        · exact hx
        · exact cod_ok h y hy
    · rw [if_pos hx] at h; exact absurd h hx
/-- What has a form has room. -/
theorem rm_of_form {x : Fn} (h : chF x = 0) : Rm16 x := by
  have hz : frV x = 0 ∧ cdV x = 0 ∧ rgV x = 0 ∧ lnV9 x = 0 ∧ rfV9 x = 0 := by
    unfold chF at h
    simp only [firN] at h
    by_cases a1 : frV x = 0
    · by_cases a2 : cdV x = 0
      · by_cases a3 : rgV x = 0
        · by_cases a4 : lnV9 x = 0
          · by_cases a5 : rfV9 x = 0
            · exact ⟨a1, a2, a3, a4, a5⟩
            · simp [a1, a2, a3, a4, a5] at h
          · simp [a1, a2, a3, a4] at h
        · simp [a1, a2, a3] at h
      · simp [a1, a2] at h
    · simp [a1] at h
  obtain ⟨z1, z2, z3, z4, z5⟩ := hz
  have c0 : x.cs.length ≤ 64 ∧ codL x.cs = 0 := by
    unfold cdV at z2
    by_cases hf : flowV x.cs = 0
    · rw [if_neg (by simp [hf])] at z2
      refine ⟨?_, z2⟩
      unfold flowV chk at hf
      split at hf
      · omega
      · split at hf
        · omega
        · omega
    · rw [if_pos hf] at z2; exact absurd z2 hf
  have f0 : (0 ≤ x.k ∧ x.k ≤ 7) ∧ x.ks.length ≤ 16 ∧ x.ks.any nkB = false ∧ 0 ≤ x.pd ∧ x.pd ≤ 4096 := by
    unfold frV at z1
    split at z1
    · omega
    · rename_i hc
      split at z1
      · omega
      · split at z1
        · omega
        · split at z1
          · omega
          · rename_i hk
            split at z1
            · rename_i hp
              unfold frB at hp
              rw [Bool.and_eq_true, decide_eq_true_eq, decide_eq_true_eq] at hp
              refine ⟨?_, by omega, ?_, hp.1, hp.2⟩
              · unfold Si.isC at hc; simpa using hc
              · cases h9 : x.ks.any nkB with
                | true => rw [h9, Bool.true_or] at hk; exact absurd rfl hk
                | false => rfl
            · omega
  have r0 : 0 ≤ x.f ∧ x.f ≤ x.t ∧ x.t ≤ (x.cs.length : Int) := by
    unfold rgV s4B at z3
    split at z3
    · rename_i hp
      simpa [Bool.and_eq_true, and_assoc] using hp
    · omega
  have l0 : x.ls.length ≤ 16 ∧ risB (x.cs.length : Int) (-1) (x.ls.map fun y => y.1) = true ∧ x.ls.any lnB9 = false := by
    unfold lnV9 at z4
    split at z4
    · omega
    · split at z4
      · rename_i h1 hp
        rw [Bool.and_eq_true, Bool.and_eq_true, Bool.not_eq_true'] at hp
        exact ⟨by omega, hp.2.1, hp.2.2⟩
      · omega
  have s0 : risB (x.cs.length : Int) (-1) (x.rs.map fun y => y.1) = true ∧ x.rs.any rfB9 = false := by
    unfold rfV9 at z5
    split at z5
    · rename_i hp
      rw [Bool.and_eq_true, Bool.not_eq_true'] at hp
      exact hp
    · omega
  have li := ris_in l0.2.1
  have ri := ris_in s0.1
  rw [List.length_map] at ri
  refine ⟨by omega, ⟨by omega, fun z hz => ?_⟩, by omega, by omega, by omega, ⟨by omega, fun y hy => ?_⟩, ⟨by omega, cod_ok c0.2⟩, by omega, fun y hy => ?_⟩
  · have := List.any_eq_false.1 f0.2.2.1 z hz
    unfold nkB at this
    simp at this
    omega
  · have h1 := li.1 y.1 (List.mem_map.2 ⟨y, hy, rfl⟩)
    have h2 := List.any_eq_false.1 l0.2.2 y hy
    unfold lnB9 frB at h2
    simp at h2
    omega
  · have h1 := ri.1 y.1 (List.mem_map.2 ⟨y, hy, rfl⟩)
    have h2 := List.any_eq_false.1 s0.2 y hy
    unfold rfB9 frB at h2
    simp at h2
    omega
end Go.Proofs.YtbknmapkdjmcjaaGreatDoor.By

namespace Go.Proofs.YtbknmapkdjmcjaaGreatDoor.By
open Go.RowKit
open Mem Gm Rf
set_option linter.unusedSimpArgs false
set_option linter.unusedVariables false

def Dead (q : Sw) : Prop := q.1.2 = false ∧ q.2 = 5
/-- A step that takes such bytes; of fewer ones it leaves a dead reader. -/
def Stp (l : List UInt8) (f : Sw → Sw) (bs : List UInt8) : Prop :=
  (∀ p r, l.drop p = bs ++ r → f (Gp p) = Gp (p + bs.length)) ∧ (∀ p s, s ≠ [] → bs = l.drop p ++ s → p ≤ l.length → Dead (f (Gp p))) ∧ ∀ q, Dead q → Dead (f q)
theorem drop_next {l a r : List UInt8} {p : Nat} (h : l.drop p = a ++ r) : l.drop (p + a.length) = r := by
  rw [← List.drop_drop, h, List.drop_left]
theorem Stp.comp {l a b : List UInt8} {f g : Sw → Sw} (hf : Stp l f a) (hg : Stp l g b) : Stp l (fun q => g (f q)) (a ++ b) := by
  refine ⟨fun p r h => ?_, fun p s hs h hp => ?_, fun q hq => hg.2.2 _ (hf.2.2 _ hq)⟩
  · rw [List.append_assoc] at h
    show g (f (Gp p)) = _
    rw [hf.1 p _ h, hg.1 _ _ (drop_next h), List.length_append, Nat.add_assoc]
  · rcases List.append_eq_append_iff.1 h with ⟨c, h1, h2⟩ | ⟨c, h1, h2⟩
    · show Dead (g (f (Gp p)))
      rw [hf.1 p _ h1]
      have hl := congrArg List.length h1
      rw [List.length_drop, List.length_append] at hl
      exact hg.2.1 _ s hs (by rw [drop_next h1]; exact h2) (by omega)
    · by_cases hc : c = []
      · subst hc
        rw [List.append_nil] at h1
        have h1' : l.drop p = a ++ [] := by rw [List.append_nil, h1]
        show Dead (g (f (Gp p)))
        rw [hf.1 p _ h1']
        have hl := congrArg List.length h1'
        rw [List.length_drop, List.length_append, List.length_nil] at hl
        exact hg.2.1 _ s hs (by rw [drop_next h1', List.nil_append]; rw [List.nil_append] at h2; exact h2.symm) (by omega)
      · exact hg.2.2 _ (hf.2.1 p c hc h1 hp)
theorem fits_bad (l : List UInt8) (p : Nat) (k : Int) : fitsB l p false k = false := rfl
theorem dead_nv {l : List UInt8} {q : Sw} (h : Dead q) (k : Int) : nvS l q k = 0 := by
  unfold nvS rvS readV
  rw [h.1, fits_bad]; rfl
theorem dead_wd {l : List UInt8} {q : Sw} (h : Dead q) (k : Int) : Dead (wdS l q k) := by
  have e : (pgS l q.1 k).2 = false := by show fitsB l q.1.1 q.1.2 k = false; rw [h.1]; rfl
  unfold wdS
  rw [e, if_neg (by simp)]
  exact ⟨e, by show tlS q.2 5 = 5; rw [h.2]; rfl⟩
theorem short_wd {l : List UInt8} {p : Nat} {k : Int} (hf : fitsB l p true k = false) : nvS l (Gp p) k = 0 ∧ Dead (wdS l (Gp p) k) := by
  refine ⟨by unfold nvS rvS readV; rw [hf]; rfl, ?_⟩
  have e : (pgS l (p, true) k).2 = false := hf
  unfold wdS
  rw [e, if_neg (by simp)]
  exact ⟨e, rfl⟩
theorem not_fits {l s bs : List UInt8} {p : Nat} {k : Nat} (hs : s ≠ []) (h : bs = l.drop p ++ s) (hb : bs.length = k) (hk : 1 ≤ k) (hp : p ≤ l.length) : fitsB l p true k = false := by
  have hl := congrArg List.length h
  rw [List.length_append, List.length_drop] at hl
  have : 0 < s.length := List.length_pos_iff.2 hs
  unfold fitsB
  rw [Bool.true_and]
  exact decide_eq_false (by omega)
theorem stp_wd {l : List UInt8} {n : Int} {k : Nat} (hk : 1 ≤ k ∧ k ≤ 8) (hn : numV false (be n k) = n) : Stp l (fun q => wdS l q k) (putB n k) := by
  have hlen : (putB n k).length = k := by unfold putB; rw [if_pos (by omega), Int.toNat_natCast, be_length]
  refine ⟨fun p r h => ?_, fun p s hs h hp => ?_, fun q hq => dead_wd hq _⟩
  · rw [hlen]; exact (wd_put hk h hn).2.1
  · exact (short_wd (not_fits hs h hlen hk.1 hp)).2
theorem stp_one {l : List UInt8} {n : Int} (hn : 0 ≤ n ∧ n ≤ 255) : Stp l (fun q => wdS l q 1) (putB n 1) := stp_wd (k := 1) (by omega) (num_1 n hn)
theorem stp_two {l : List UInt8} {n : Int} (hn : 0 ≤ n ∧ n ≤ 65535) : Stp l (fun q => wdS l q 2) (putB n 2) := stp_wd (k := 2) (by omega) (num_2 n hn)
theorem stp_fg {l : List UInt8} (b : Bool) : Stp l (fgS l) (putB (fl b) 1) := by
  refine ⟨fun p r h => ?_, fun p s hs h hp => ?_, fun q hq => ?_⟩
  · rw [putB1]; exact (fg_put h).2.1
  · obtain ⟨h1, h2⟩ := short_wd (not_fits hs h (putB1 _) (Nat.le_refl 1) hp)
    unfold fgS
    rw [show nvS l (Gp p) 1 = 0 from h1, if_neg (by omega)]
    exact h2
  · unfold fgS
    rw [dead_nv hq, if_neg (by omega)]
    exact dead_wd hq _
theorem stp_ln {l : List UInt8} {x : Ln} (hx : (0 ≤ x.1 ∧ x.1 ≤ 255) ∧ 0 ≤ x.2 ∧ x.2 ≤ 65535) : Stp l (lnS l) (lnB x) := (stp_one hx.1).comp (stp_two hx.2)
theorem stp_rf {l : List UInt8} {x : Rl} (hx : (0 ≤ x.1 ∧ x.1 ≤ 255) ∧ 0 ≤ x.2.1 ∧ x.2.1 ≤ 255) : Stp l (rfS l) (rlB x) := ((stp_one hx.1).comp (stp_one hx.2)).comp (stp_fg x.2.2)
theorem stp_in {l : List UInt8} {x : In5} (hx : chV x.1 x.2.1 x.2.2.1 x.2.2.2.1 x.2.2.2.2 = 0) : Stp l (inS5 l) (inB x) := by
  refine ⟨fun p r h => ?_, fun p s hs h hp => ?_, fun q hq => ?_⟩
  · rw [inB_len]; exact (in_put h hx).2.1
  · have hf : fitsB l p true 8 = false := not_fits hs h (inB_len x) (by decide) hp
    unfold inS5 gotE
    dsimp only
    rw [hf, if_neg (by simp)]
    exact ⟨hf, rfl⟩
  · unfold inS5
    exact ⟨by show fitsB l q.1.1 q.1.2 8 = false; rw [hq.1]; rfl, by show tlS q.2 _ = 5; rw [hq.2]; rfl⟩
theorem stp_its {α : Type} {l : List UInt8} {f : Sw → Sw} {B : α → List UInt8} : ∀ (xs : List α), (∀ x ∈ xs, Stp l f (B x)) → Stp l (itS f xs.length) (xs.flatMap B)
  | [], _ => ⟨fun p r h => rfl, fun p s hs h hp => absurd (List.append_eq_nil_iff.1 h.symm).2 hs, fun q hq => hq⟩
  | x :: xs, h => by
    have h1 := (h x (by simp)).comp (stp_its xs fun y hy => h y (by simp [hy]))
    rw [List.flatMap_cons, List.length_cons]
    have e : itS f (xs.length + 1) = fun q => itS f xs.length (f q) := funext fun q => itS_cons f _ q
    rw [e]
    exact h1
theorem stp_sev {α : Type} {l : List UInt8} {f : List UInt8 → Sw → Sw} {B : α → List UInt8} (xs : List α) (hl : xs.length ≤ 255) (h : ∀ x ∈ xs, Stp l (f l) (B x)) : Stp l (sevS f l) (putB (xs.length : Int) 1 ++ xs.flatMap B) := by
  have hi := stp_its xs h
  have h1 : Stp l (fun q => wdS l q 1) (putB (xs.length : Int) 1) := stp_one (by omega)
  refine ⟨fun p r hd => ?_, fun p s hs hd hp => ?_, fun q hq => ?_⟩
  · rw [List.append_assoc] at hd
    obtain ⟨a1, a2, a3⟩ := wd_one hd (by omega)
    unfold sevS
    rw [a1, a2, Int.toNat_natCast, hi.1 _ _ a3, List.length_append, putB1, Nat.add_assoc]
  · rcases List.append_eq_append_iff.1 hd with ⟨c, e1, e2⟩ | ⟨c, e1, e2⟩
    · obtain ⟨a1, a2, a3⟩ := wd_one e1 (by omega)
      have hlen := congrArg List.length e1
      rw [List.length_drop, List.length_append, putB1] at hlen
      unfold sevS
      rw [a1, a2, Int.toNat_natCast]
      exact hi.2.1 _ s hs (by rw [a3]; exact e2) (by omega)
    · by_cases hc : c = []
      · subst hc
        rw [List.append_nil] at e1
        have e1' : l.drop p = putB (xs.length : Int) 1 ++ [] := by rw [List.append_nil, e1]
        obtain ⟨a1, a2, a3⟩ := wd_one e1' (by omega)
        have hlen := congrArg List.length e1'
        rw [List.length_drop, List.length_append, putB1, List.length_nil] at hlen
        unfold sevS
        rw [a1, a2, Int.toNat_natCast]
        rw [List.nil_append] at e2
        exact hi.2.1 _ s hs (by rw [a3, List.nil_append]; exact e2.symm) (by omega)
      · obtain ⟨b1, b2⟩ := short_wd (not_fits hc e1 (putB1 _) (Nat.le_refl 1) hp)
        unfold sevS
        rw [show nvS l (Gp p) 1 = 0 from b1]
        exact b2
  · unfold sevS
    rw [dead_nv hq]
    exact dead_wd hq _
theorem stp_fun {x : Fn} (h : Rm16 x) (l : List UInt8) : Stp l (fq9 l) (fnB x) := by
  obtain ⟨hk, ⟨hkl, hks⟩, hp, hf, ht, ⟨hll, hls⟩, ⟨hcl, hcs⟩, hrl, hrs⟩ := h
  have s1 : Stp l (fq1 l) (putB x.k 1) := stp_one hk
  have s2 : Stp l (fq2 l) (putB x.k 1 ++ (putB (x.ks.length : Int) 1 ++ ksB x.ks)) := s1.comp (stp_sev (f := nmS1) x.ks hkl fun z hz => stp_one (hks z hz))
  have s3 : Stp l (fq3 l) _ := s2.comp (stp_two hp)
  have s4 : Stp l (fq4 l) _ := s3.comp (stp_fg x.ns)
  have s5 : Stp l (fq5 l) _ := s4.comp (stp_one hf)
  have s6 : Stp l (fq6 l) _ := s5.comp (stp_one ht)
  have s7 : Stp l (fq7 l) _ := s6.comp (stp_sev (f := lnS) x.ls hll fun y hy => stp_ln (hls y hy))
  have s8 : Stp l (fq8 l) _ := s7.comp (stp_sev (f := inS5) x.cs hcl fun y hy => stp_in (hcs y hy))
  have s9 : Stp l (fq9 l) _ := s8.comp (stp_sev (f := rfS) x.rs hrl fun y hy => stp_rf (hrs y hy))
  exact s9
/-- Of fewer bytes nothing is got. -/
theorem fun_short (x : Fn) (n : Nat) (h : Rm16 x) (hn : n < (fnB x).length) : geV ((fnB x).take n) (0, true) = fn0 ∧ geE ((fnB x).take n) (0, true) = 5 := by
  have hd := (stp_fun h ((fnB x).take n)).2.1 0 ((fnB x).drop n) (fun e => by have := congrArg List.length e; rw [List.length_drop, List.length_nil] at this; omega) (by rw [List.drop_zero, List.take_append_drop]) (Nat.zero_le _)
  unfold geV geE
  have h5 : (fq9 ((fnB x).take n) ((0, true), 0)).2 = 5 := hd.2
  rw [h5]
  exact ⟨if_neg (by decide), rfl⟩
end Go.Proofs.YtbknmapkdjmcjaaGreatDoor.By

namespace Go.Proofs.YtbknmapkdjmcjaaGreatDoor.By
open Go.RowKit
open Mem Gm Rf
set_option linter.unusedSimpArgs false
set_option linter.unusedVariables false

/-- Bytes of the call's own that are answered. -/
def ONn (N : Nat) (bs : List UInt8) (w : World) (e : Ending) (w' : World) : Prop := ∃ A c, e = .returned (.slice A N c) ∧ w'.ownsRow w.heap.size 5 1 (.slice A N c) N (u8s bs) ∧ Below w.heap.size w w'
def OBn (bs : List UInt8) (w : World) (e : Ending) (w' : World) : Prop := ONn bs.length bs w e w'
theorem obn_of {bs : List UInt8} {w w' : World} {e : Ending} (h : Owns w (u8s bs) e w') : OBn bs w e w' := by
  obtain ⟨v, rfl, h1, h2⟩ := h
  obtain ⟨A, c, rfl⟩ := own_formW h1
  rw [u8s_length] at h1 ⊢
  exact ⟨A, c, rfl, h1, h2⟩
theorem obn_n {N : Nat} {bs cs : List UInt8} {w w' : World} {e : Ending} (hc : cs = bs) (hN : bs.length = N) (h : OBn cs w e w') : ONn N bs w e w' := by subst hc hN; exact h
theorem own_lower {w : World} {a b n k : Nat} {E : TypeId} {v : Value} {xs : List Value} (hab : b ≤ a) (h : w.ownsRow a E k v n xs) : w.ownsRow b E k v n xs := by
  obtain ⟨h1, h2⟩ := h
  refine ⟨h1, ?_⟩
  rcases h2 with h2 | ⟨g, cap, cur, hv, hb, r⟩
  · exact .inl h2
  · exact .inr ⟨g, cap, cur, hv, Nat.le_trans hab hb, r⟩
theorem cat_own (W : World) (ps : List (Option Addr × Nat × List UInt8)) (k : Nat) (cs : Array Value) (t : TypeId) (hk : ps.length = k) (hcs : cs.toList = ps.map pvb) (hp : ∀ p ∈ ps, SlV W W.heap.size (pvb p) (u8s p.2.2)) (hl : (ps.flatMap fun p => p.2.2).length ≤ 100000000) (hk9 : k ≤ 1000) :
    Calls Tryz.prog 68 #[.slice (some ⟨W.heap.size, 0, none⟩) k k] (W.alloc (.cells cs t)) (OBn (ps.flatMap fun p => p.2.2) (W.alloc (.cells cs t))) := by
  have hb := alloc_ W (.cells cs t)
  have e1 : ∀ p : Option Addr × Nat × List UInt8, pv (p.1, p.2.1, u8s p.2.2) = pvb p := fun p => by unfold pv pvb; rw [u8s_length]
  have hfl : flat (ps.map fun p => (p.1, p.2.1, u8s p.2.2)) (ps.map fun p => (p.1, p.2.1, u8s p.2.2)).length = u8s (ps.flatMap fun p => p.2.2) := by
    unfold flat
    rw [List.take_length, List.map_map]
    clear hk hcs hp hl hk9
    induction ps with
    | nil => rfl
    | cons p ps ih => rw [List.map_cons, List.flatten_cons, ih, List.flatMap_cons, u8s_append]; rfl
  have h := concat_any W.heap.size W.heap.size (ps.map fun p => (p.1, p.2.1, u8s p.2.2)) (W.alloc (.cells cs t))
    (fun j hj => by
      have hj' : j < ps.length := by simpa using hj
      rw [(Blk.new W _ _).cell, ← Array.getElem?_toList, hcs, List.getElem?_map, List.getElem?_eq_getElem hj', List.getElem_map, e1]; rfl)
    hb.size
    (fun p hpp => by
      obtain ⟨q, hq, rfl⟩ := List.mem_map.1 hpp
      rw [e1]; exact (hp q hq).below hb)
    (fun p hpp => by
      obtain ⟨q, hq, rfl⟩ := List.mem_map.1 hpp
      exact u8s_one _)
    (by rw [hfl, u8s_length]; omega) (by rw [List.length_map]; omega)
  rw [hfl, List.length_map, hk] at h
  exact h.mono fun e w' hh => obn_of hh


set_option maxRecDepth 100000 in
set_option maxHeartbeats 8000000 in
theorem putF_own (w : World) (A2 : Option Addr) (m c2 : Nat) (bs : List UInt8) (AK AL AC AR : Option Addr) (nK cK nL cL nC cC nR cR : Nat) (x : Fn) (hm : bs.length = m) (hb : SlV w w.heap.size (.slice A2 m c2) (u8s bs)) (hml : m ≤ 100000) (hF : FnW w AK nK cK AL nL cL AC nC cC AR nR cR x) (hK : nK ≤ 10000) (hL : nL ≤ 10000) (hC : nC ≤ 10000) (hR : nR ≤ 10000) :
    Calls Tryz.prog 22 #[.slice A2 m c2, .agg #[.int .i64 x.k, .slice AK nK cK, .int .i64 x.pd, .bool x.ns, .int .i64 x.f, .int .i64 x.t, .slice AL nL cL, .slice AC nC cC, .slice AR nR cR]] w (ONn (bs ++ fnB x).length (bs ++ fnB x) w) := by
  obtain ⟨k0, ks, pd, ns, f0, t0, ls, cs, rs⟩ := x
  obtain ⟨hk, hkl, hl, hc, hr⟩ := hF
  dsimp only at hk hkl hl hc hr ⊢
  have hll : ls.length = nL := hl.1
  have hcl : cs.length = nC := hc.1
  have hrl : rs.length = nR := hr.1
  obtain ⟨W1, hW1⟩ : ∃ W1, w.alloc (.cells #[.int .i64 k0, .slice AK nK cK, .int .i64 pd, .bool ns, .int .i64 f0, .int .i64 t0, .slice AL nL cL, .slice AC nC cC, .slice AR nR cR] 27) = W1 := ⟨_, rfl⟩
  have hsz1 : w.heap.size < W1.heap.size := by rw [← hW1]; simp
  have HB0 := Lib.hid (show Below w.heap.size w W1 by rw [← hW1]; exact alloc_ _ _)
  have HX := Lib.hid (show ∀ W, Below W1.heap.size W1 W → Blk W w.heap.size 27 #[.int .i64 k0, .slice AK nK cK, .int .i64 pd, .bool ns, .int .i64 f0, .int .i64 t0, .slice AL nL cL, .slice AC nC cC, .slice AR nR cR] from fun W hb => (hb.block _ hsz1).trans (by rw [← hW1]; exact Blk.new w _ _))
  have HN := Lib.hid (fun n W => (fnum_any n W).mono fun _ _ hh => ban_of hh)
  have HLO := Lib.hid (fun n W => (flong_any n W).mono fun _ _ hh => ban_of hh)
  have HFL := Lib.hid (fun b W => (fflag_any b W).mono fun _ _ hh => ban_of hh)
  have HLK := Lib.hid (fun W (hb : Below w.heap.size w W) => (flistK_any W AK nK cK ks (hk.on hb) hkl (by omega)).mono fun _ _ hh => ban_of hh)
  have HLL := Lib.hid (fun W (hb : Below w.heap.size w W) => (flistL_any W AL nL cL ls (hl.on hb) (by omega)).mono fun _ _ hh => ban_of hh)
  have HLC := Lib.hid (fun W (hb : Below w.heap.size w W) => (flistC_any W AC nC cC cs (hc.on hb) (by omega)).mono fun _ _ hh => ban_of hh)
  have HLR := Lib.hid (fun W (hb : Below w.heap.size w W) => (flistR_any W AR nR cR rs (hr.on hb) (by omega)).mono fun _ _ hh => ban_of hh)
  have HSB := Lib.hid (fun W (hbb : Below w.heap.size w W) => (show SlV W W.heap.size (.slice A2 m c2) (u8s bs) from (hb.below hbb).more hbb.size))
  have HFV := Lib.hid (show fnB ⟨k0, ks, pd, ns, f0, t0, ls, cs, rs⟩ = putB k0 1 ++ (putB (nK : Int) 1 ++ ksB ks) ++ putB pd 2 ++ putB (fl ns) 1 ++ putB f0 1 ++ putB t0 1 ++ (putB (nL : Int) 1 ++ lnsB ls) ++ (putB (nC : Int) 1 ++ insLB cs) ++ (putB (nR : Int) 1 ++ rlsB rs) from by unfold fnB; dsimp only; rw [hkl, hll, hcl, hrl])
  have HZ := Lib.hid (show bs.length + (putB k0 1).length + (putB (nK : Int) 1 ++ ksB ks).length + (putB pd 2).length + (putB (fl ns) 1).length + (putB f0 1).length + (putB t0 1).length + (putB (nL : Int) 1 ++ lnsB ls).length + (putB (nC : Int) 1 ++ insLB cs).length + (putB (nR : Int) 1 ++ rlsB rs).length ≤ 1000000 by
    simp only [List.length_append, putB1, putB2, ksB_len, lnsB_len, insLB_len, rlsB_len]; omega)
  have HM := Lib.hid hm
  have hHeld := blk9 (HX.out W1.drew (drew_below W1))
  have HD0 := Lib.hid (drew_below W1)
  obtain ⟨N, hN⟩ : ∃ N, (bs ++ fnB ⟨k0, ks, pd, ns, f0, t0, ls, cs, rs⟩).length = N := ⟨_, rfl⟩
  have HN9 := Lib.hid hN
  clear hN hb hm hml hk hkl hl hc hr hK hL hC hR hll hcl hrl
  go_enter Tryz.func22, Tryz.ntmps22
  go_wp2_with fail
  clear hW1
  refine wp_region_noPanic ?_
  refine wp_region_held_drew (S := fun W' => W'.cell? ⟨w.heap.size, 0, none⟩ = some (.int .i64 k0) ∧ W'.cell? ⟨w.heap.size, 1, none⟩ = some (.slice AK nK cK) ∧ W'.cell? ⟨w.heap.size, 2, none⟩ = some (.int .i64 pd) ∧ W'.cell? ⟨w.heap.size, 3, none⟩ = some (.bool ns) ∧ W'.cell? ⟨w.heap.size, 4, none⟩ = some (.int .i64 f0) ∧ W'.cell? ⟨w.heap.size, 5, none⟩ = some (.int .i64 t0) ∧ W'.cell? ⟨w.heap.size, 6, none⟩ = some (.slice AL nL cL) ∧ W'.cell? ⟨w.heap.size, 7, none⟩ = some (.slice AC nC cC) ∧ W'.cell? ⟨w.heap.size, 8, none⟩ = some (.slice AR nR cR)) (by kernel_rfl) (hHeld) (fun hHeld => ?_)
  refine wpAnyH_take (i := 0) rfl (by kernel_rfl) (by kernel_rfl) (by kernel_rfl) (fun _ _ _ h => h) (Or.inl ⟨by rfl, by intro W hSW; (try dsimp only at hSW); go_simp; try (with_reducible rfl)⟩) hHeld ?_
  try simp only [Act.put, List.getElem_toArray, List.getElem_cons_zero, List.getElem_cons_succ, List.setIfInBounds_toArray, List.set_cons_zero, List.set_cons_succ]
  refine wpAnyH_take (i := 1) rfl (by kernel_rfl) (by kernel_rfl) (by kernel_rfl) (fun _ _ _ h => h) (Or.inl ⟨by rfl, by intro W hSW; (try dsimp only at hSW); go_simp; try (with_reducible rfl)⟩) hHeld ?_
  try simp only [Act.put, List.getElem_toArray, List.getElem_cons_zero, List.getElem_cons_succ, List.setIfInBounds_toArray, List.set_cons_zero, List.set_cons_succ]
  refine wpAnyH_take (i := 2) rfl (by kernel_rfl) (by kernel_rfl) (by kernel_rfl) (fun _ _ _ h => h) (Or.inl ⟨by rfl, by intro W hSW; (try dsimp only at hSW); go_simp; try (with_reducible rfl)⟩) hHeld ?_
  try simp only [Act.put, List.getElem_toArray, List.getElem_cons_zero, List.getElem_cons_succ, List.setIfInBounds_toArray, List.set_cons_zero, List.set_cons_succ]
  refine wpAnyH_take (i := 4) rfl (by kernel_rfl) (by kernel_rfl) (by kernel_rfl) (fun _ _ _ h => h) (Or.inl ⟨by rfl, by intro W hSW; (try dsimp only at hSW); go_simp; try (with_reducible rfl)⟩) hHeld ?_
  try simp only [Act.put, List.getElem_toArray, List.getElem_cons_zero, List.getElem_cons_succ, List.setIfInBounds_toArray, List.set_cons_zero, List.set_cons_succ]
  refine wpAnyH_take (i := 5) rfl (by kernel_rfl) (by kernel_rfl) (by kernel_rfl) (fun _ _ _ h => h) (Or.inl ⟨by rfl, by intro W hSW; (try dsimp only at hSW); go_simp; try (with_reducible rfl)⟩) hHeld ?_
  try simp only [Act.put, List.getElem_toArray, List.getElem_cons_zero, List.getElem_cons_succ, List.setIfInBounds_toArray, List.set_cons_zero, List.set_cons_succ]
  refine wpAnyH_take (i := 7) rfl (by kernel_rfl) (by kernel_rfl) (by kernel_rfl) (fun _ _ _ h => h) (Or.inl ⟨by rfl, by intro W hSW; (try dsimp only at hSW); go_simp; try (with_reducible rfl)⟩) hHeld ?_
  try simp only [Act.put, List.getElem_toArray, List.getElem_cons_zero, List.getElem_cons_succ, List.setIfInBounds_toArray, List.set_cons_zero, List.set_cons_succ]
  refine wpAnyH_take (i := 8) rfl (by kernel_rfl) (by kernel_rfl) (by kernel_rfl) (fun _ _ _ h => h) (Or.inl ⟨by rfl, by intro W hSW; (try dsimp only at hSW); go_simp; try (with_reducible rfl)⟩) hHeld ?_
  try simp only [Act.put, List.getElem_toArray, List.getElem_cons_zero, List.getElem_cons_succ, List.setIfInBounds_toArray, List.set_cons_zero, List.set_cons_succ]
  refine wpAnyH_take (i := 10) rfl (by kernel_rfl) (by kernel_rfl) (by kernel_rfl) (fun _ _ _ h => h) (Or.inl ⟨by rfl, by intro W hSW; (try dsimp only at hSW); go_simp; try (with_reducible rfl)⟩) hHeld ?_
  try simp only [Act.put, List.getElem_toArray, List.getElem_cons_zero, List.getElem_cons_succ, List.setIfInBounds_toArray, List.set_cons_zero, List.set_cons_succ]
  refine wpAnyH_take (i := 11) rfl (by kernel_rfl) (by kernel_rfl) (by kernel_rfl) (fun _ _ _ h => h) (Or.inl ⟨by rfl, by intro W hSW; (try dsimp only at hSW); go_simp; try (with_reducible rfl)⟩) hHeld ?_
  try simp only [Act.put, List.getElem_toArray, List.getElem_cons_zero, List.getElem_cons_succ, List.setIfInBounds_toArray, List.set_cons_zero, List.set_cons_succ]
  refine wpAnyH_take (i := 13) rfl (by kernel_rfl) (by kernel_rfl) (by kernel_rfl) (fun _ _ _ h => h) (Or.inl ⟨by rfl, by intro W hSW; (try dsimp only at hSW); go_simp; try (with_reducible rfl)⟩) hHeld ?_
  try simp only [Act.put, List.getElem_toArray, List.getElem_cons_zero, List.getElem_cons_succ, List.setIfInBounds_toArray, List.set_cons_zero, List.set_cons_succ]
  refine wpAnyH_take (i := 14) rfl (by kernel_rfl) (by kernel_rfl) (by kernel_rfl) (fun _ _ _ h => h) (Or.inl ⟨by rfl, by intro W hSW; (try dsimp only at hSW); go_simp; try (with_reducible rfl)⟩) hHeld ?_
  try simp only [Act.put, List.getElem_toArray, List.getElem_cons_zero, List.getElem_cons_succ, List.setIfInBounds_toArray, List.set_cons_zero, List.set_cons_succ]
  refine wpAnyH_take (i := 16) rfl (by kernel_rfl) (by kernel_rfl) (by kernel_rfl) (fun _ _ _ h => h) (Or.inl ⟨by rfl, by intro W hSW; (try dsimp only at hSW); go_simp; try (with_reducible rfl)⟩) hHeld ?_
  try simp only [Act.put, List.getElem_toArray, List.getElem_cons_zero, List.getElem_cons_succ, List.setIfInBounds_toArray, List.set_cons_zero, List.set_cons_succ]
  refine wpAnyH_take (i := 17) rfl (by kernel_rfl) (by kernel_rfl) (by kernel_rfl) (fun _ _ _ h => h) (Or.inl ⟨by rfl, by intro W hSW; (try dsimp only at hSW); go_simp; try (with_reducible rfl)⟩) hHeld ?_
  try simp only [Act.put, List.getElem_toArray, List.getElem_cons_zero, List.getElem_cons_succ, List.setIfInBounds_toArray, List.set_cons_zero, List.set_cons_succ]
  refine wpAnyH_take (i := 19) rfl (by kernel_rfl) (by kernel_rfl) (by kernel_rfl) (fun _ _ _ h => h) (Or.inl ⟨by rfl, by intro W hSW; (try dsimp only at hSW); go_simp; try (with_reducible rfl)⟩) hHeld ?_
  try simp only [Act.put, List.getElem_toArray, List.getElem_cons_zero, List.getElem_cons_succ, List.setIfInBounds_toArray, List.set_cons_zero, List.set_cons_succ]
  refine wpAnyH_take (i := 20) rfl (by kernel_rfl) (by kernel_rfl) (by kernel_rfl) (fun _ _ _ h => h) (Or.inl ⟨by rfl, by intro W hSW; (try dsimp only at hSW); go_simp; try (with_reducible rfl)⟩) hHeld ?_
  try simp only [Act.put, List.getElem_toArray, List.getElem_cons_zero, List.getElem_cons_succ, List.setIfInBounds_toArray, List.set_cons_zero, List.set_cons_succ]
  refine wpAnyH_take (i := 22) rfl (by kernel_rfl) (by kernel_rfl) (by kernel_rfl) (fun _ _ _ h => h) (Or.inl ⟨by rfl, by intro W hSW; (try dsimp only at hSW); go_simp; try (with_reducible rfl)⟩) hHeld ?_
  try simp only [Act.put, List.getElem_toArray, List.getElem_cons_zero, List.getElem_cons_succ, List.setIfInBounds_toArray, List.set_cons_zero, List.set_cons_succ]
  refine wpAnyH_take (i := 23) rfl (by kernel_rfl) (by kernel_rfl) (by kernel_rfl) (fun _ _ _ h => h) (Or.inl ⟨by rfl, by intro W hSW; (try dsimp only at hSW); go_simp; try (with_reducible rfl)⟩) hHeld ?_
  try simp only [Act.put, List.getElem_toArray, List.getElem_cons_zero, List.getElem_cons_succ, List.setIfInBounds_toArray, List.set_cons_zero, List.set_cons_succ]
  refine wpAnyH_take (i := 25) rfl (by kernel_rfl) (by kernel_rfl) (by kernel_rfl) (fun _ _ _ h => h) (Or.inl ⟨by rfl, by intro W hSW; (try dsimp only at hSW); go_simp; try (with_reducible rfl)⟩) hHeld ?_
  try simp only [Act.put, List.getElem_toArray, List.getElem_cons_zero, List.getElem_cons_succ, List.setIfInBounds_toArray, List.set_cons_zero, List.set_cons_succ]
  refine wpAnyH_take (i := 26) rfl (by kernel_rfl) (by kernel_rfl) (by kernel_rfl) (fun _ _ _ h => h) (Or.inl ⟨by rfl, by intro W hSW; (try dsimp only at hSW); go_simp; try (with_reducible rfl)⟩) hHeld ?_
  try simp only [Act.put, List.getElem_toArray, List.getElem_cons_zero, List.getElem_cons_succ, List.setIfInBounds_toArray, List.set_cons_zero, List.set_cons_succ]
  refine wpAnyH_ready (rs := [3]) (by kernel_rfl) (by simp) ?_
  refine AllReadyH.cons rfl (fun K hK => ?_) AllReadyH.nil
  go_simp
  refine (HN.out _ _).mono ?_
  rintro e wa ⟨Aa, ca, rfl, ha, ba⟩
  have Ha := Lib.hid ha
  have HBa := Lib.hid (to_ HD0.out ba)
  clear ha ba
  try go_wp2_with fail
  refine hK.out _ _ (blk9 (HX.out _ HBa.out)) ?_
  clear hK K hHeld
  intro hHeld
  try simp only [Act.put, List.getElem_toArray, List.getElem_cons_zero, List.getElem_cons_succ, List.setIfInBounds_toArray, List.set_cons_zero, List.set_cons_succ]
  refine wpAnyH_ready (rs := [6]) (by kernel_rfl) (by simp) ?_
  refine AllReadyH.cons rfl (fun K hK => ?_) AllReadyH.nil
  go_simp
  refine (HLK.out wa (to_ HB0.out HBa.out)).mono ?_
  rintro e wb ⟨Ab, cb, rfl, hb, bb⟩
  have Hb := Lib.hid hb
  have Hab := Lib.hid ((Ha.out.below bb).more bb.size)
  have HBb := Lib.hid (to_ HBa.out bb)
  clear hb bb
  try go_wp2_with fail
  refine hK.out _ _ (blk9 (HX.out _ HBb.out)) ?_
  clear hK K hHeld
  intro hHeld
  try simp only [Act.put, List.getElem_toArray, List.getElem_cons_zero, List.getElem_cons_succ, List.setIfInBounds_toArray, List.set_cons_zero, List.set_cons_succ]
  refine wpAnyH_ready (rs := [9]) (by kernel_rfl) (by simp) ?_
  refine AllReadyH.cons rfl (fun K hK => ?_) AllReadyH.nil
  go_simp
  refine (HLO.out _ _).mono ?_
  rintro e wc ⟨Ac, cc, rfl, hc, bc⟩
  have Hc := Lib.hid hc
  have Hac := Lib.hid ((Hab.out.below bc).more bc.size)
  clear Hab
  have Hbc := Lib.hid ((Hb.out.below bc).more bc.size)
  have HBc := Lib.hid (to_ HBb.out bc)
  clear hc bc
  try go_wp2_with fail
  refine hK.out _ _ (blk9 (HX.out _ HBc.out)) ?_
  clear hK K hHeld
  intro hHeld
  try simp only [Act.put, List.getElem_toArray, List.getElem_cons_zero, List.getElem_cons_succ, List.setIfInBounds_toArray, List.set_cons_zero, List.set_cons_succ]
  refine wpAnyH_ready (rs := [12]) (by kernel_rfl) (by simp) ?_
  refine AllReadyH.cons rfl (fun K hK => ?_) AllReadyH.nil
  go_simp
  refine (HFL.out _ _).mono ?_
  rintro e wd ⟨Ad, cd, rfl, hd, bd⟩
  have Hd := Lib.hid hd
  have Had := Lib.hid ((Hac.out.below bd).more bd.size)
  clear Hac
  have Hbd := Lib.hid ((Hbc.out.below bd).more bd.size)
  clear Hbc
  have Hcd := Lib.hid ((Hc.out.below bd).more bd.size)
  have HBd := Lib.hid (to_ HBc.out bd)
  clear hd bd
  try go_wp2_with fail
  refine hK.out _ _ (blk9 (HX.out _ HBd.out)) ?_
  clear hK K hHeld
  intro hHeld
  try simp only [Act.put, List.getElem_toArray, List.getElem_cons_zero, List.getElem_cons_succ, List.setIfInBounds_toArray, List.set_cons_zero, List.set_cons_succ]
  refine wpAnyH_ready (rs := [15]) (by kernel_rfl) (by simp) ?_
  refine AllReadyH.cons rfl (fun K hK => ?_) AllReadyH.nil
  go_simp
  refine (HN.out _ _).mono ?_
  rintro e we ⟨Ae, ce, rfl, he, be⟩
  have He := Lib.hid he
  have Hae := Lib.hid ((Had.out.below be).more be.size)
  clear Had
  have Hbe := Lib.hid ((Hbd.out.below be).more be.size)
  clear Hbd
  have Hce := Lib.hid ((Hcd.out.below be).more be.size)
  clear Hcd
  have Hde := Lib.hid ((Hd.out.below be).more be.size)
  have HBe := Lib.hid (to_ HBd.out be)
  clear he be
  try go_wp2_with fail
  refine hK.out _ _ (blk9 (HX.out _ HBe.out)) ?_
  clear hK K hHeld
  intro hHeld
  try simp only [Act.put, List.getElem_toArray, List.getElem_cons_zero, List.getElem_cons_succ, List.setIfInBounds_toArray, List.set_cons_zero, List.set_cons_succ]
  refine wpAnyH_ready (rs := [18]) (by kernel_rfl) (by simp) ?_
  refine AllReadyH.cons rfl (fun K hK => ?_) AllReadyH.nil
  go_simp
  refine (HN.out _ _).mono ?_
  rintro e wf ⟨Af, cf, rfl, hf, bf⟩
  have Hf := Lib.hid hf
  have Haf := Lib.hid ((Hae.out.below bf).more bf.size)
  clear Hae
  have Hbf := Lib.hid ((Hbe.out.below bf).more bf.size)
  clear Hbe
  have Hcf := Lib.hid ((Hce.out.below bf).more bf.size)
  clear Hce
  have Hdf := Lib.hid ((Hde.out.below bf).more bf.size)
  clear Hde
  have Hef := Lib.hid ((He.out.below bf).more bf.size)
  have HBf := Lib.hid (to_ HBe.out bf)
  clear hf bf
  try go_wp2_with fail
  refine hK.out _ _ (blk9 (HX.out _ HBf.out)) ?_
  clear hK K hHeld
  intro hHeld
  try simp only [Act.put, List.getElem_toArray, List.getElem_cons_zero, List.getElem_cons_succ, List.setIfInBounds_toArray, List.set_cons_zero, List.set_cons_succ]
  refine wpAnyH_ready (rs := [21]) (by kernel_rfl) (by simp) ?_
  refine AllReadyH.cons rfl (fun K hK => ?_) AllReadyH.nil
  go_simp
  refine (HLL.out wf (to_ HB0.out HBf.out)).mono ?_
  rintro e wg ⟨Ag, cg, rfl, hg, bg⟩
  have Hg := Lib.hid hg
  have Hag := Lib.hid ((Haf.out.below bg).more bg.size)
  clear Haf
  have Hbg := Lib.hid ((Hbf.out.below bg).more bg.size)
  clear Hbf
  have Hcg := Lib.hid ((Hcf.out.below bg).more bg.size)
  clear Hcf
  have Hdg := Lib.hid ((Hdf.out.below bg).more bg.size)
  clear Hdf
  have Heg := Lib.hid ((Hef.out.below bg).more bg.size)
  clear Hef
  have Hfg := Lib.hid ((Hf.out.below bg).more bg.size)
  have HBg := Lib.hid (to_ HBf.out bg)
  clear hg bg
  try go_wp2_with fail
  refine hK.out _ _ (blk9 (HX.out _ HBg.out)) ?_
  clear hK K hHeld
  intro hHeld
  try simp only [Act.put, List.getElem_toArray, List.getElem_cons_zero, List.getElem_cons_succ, List.setIfInBounds_toArray, List.set_cons_zero, List.set_cons_succ]
  refine wpAnyH_ready (rs := [24]) (by kernel_rfl) (by simp) ?_
  refine AllReadyH.cons rfl (fun K hK => ?_) AllReadyH.nil
  go_simp
  refine (HLC.out wg (to_ HB0.out HBg.out)).mono ?_
  rintro e wh ⟨Ah, ch, rfl, hh, bh⟩
  have Hh := Lib.hid hh
  have Hah := Lib.hid ((Hag.out.below bh).more bh.size)
  clear Hag
  have Hbh := Lib.hid ((Hbg.out.below bh).more bh.size)
  clear Hbg
  have Hch := Lib.hid ((Hcg.out.below bh).more bh.size)
  clear Hcg
  have Hdh := Lib.hid ((Hdg.out.below bh).more bh.size)
  clear Hdg
  have Heh := Lib.hid ((Heg.out.below bh).more bh.size)
  clear Heg
  have Hfh := Lib.hid ((Hfg.out.below bh).more bh.size)
  clear Hfg
  have Hgh := Lib.hid ((Hg.out.below bh).more bh.size)
  have HBh := Lib.hid (to_ HBg.out bh)
  clear hh bh
  try go_wp2_with fail
  refine hK.out _ _ (blk9 (HX.out _ HBh.out)) ?_
  clear hK K hHeld
  intro hHeld
  try simp only [Act.put, List.getElem_toArray, List.getElem_cons_zero, List.getElem_cons_succ, List.setIfInBounds_toArray, List.set_cons_zero, List.set_cons_succ]
  refine wpAnyH_ready (rs := [27]) (by kernel_rfl) (by simp) ?_
  refine AllReadyH.cons rfl (fun K hK => ?_) AllReadyH.nil
  go_simp
  refine (HLR.out wh (to_ HB0.out HBh.out)).mono ?_
  rintro e wi ⟨Ai, ci, rfl, hi, bi⟩
  have Hi := Lib.hid hi
  have Hai := Lib.hid ((Hah.out.below bi).more bi.size)
  clear Hah
  have Hbi := Lib.hid ((Hbh.out.below bi).more bi.size)
  clear Hbh
  have Hci := Lib.hid ((Hch.out.below bi).more bi.size)
  clear Hch
  have Hdi := Lib.hid ((Hdh.out.below bi).more bi.size)
  clear Hdh
  have Hei := Lib.hid ((Heh.out.below bi).more bi.size)
  clear Heh
  have Hfi := Lib.hid ((Hfh.out.below bi).more bi.size)
  clear Hfh
  have Hgi := Lib.hid ((Hgh.out.below bi).more bi.size)
  clear Hgh
  have Hhi := Lib.hid ((Hh.out.below bi).more bi.size)
  have HBi := Lib.hid (to_ HBh.out bi)
  clear hi bi
  try go_wp2_with fail
  refine hK.out _ _ (blk9 (HX.out _ HBi.out)) ?_
  clear hK K hHeld
  intro hHeld
  try simp only [Act.put, List.getElem_toArray, List.getElem_cons_zero, List.getElem_cons_succ, List.setIfInBounds_toArray, List.set_cons_zero, List.set_cons_succ]
  have HAL := Lib.hid (fun o => alloc_ wi o)
  refine wpAnyH_ready (rs := [28]) (by kernel_rfl) (by simp) ?_
  refine AllReadyH.cons rfl (fun K hK => ?_) AllReadyH.nil
  go_simp
  refine hK.out _ _ (blk9 (HX.out _ (to_ HBi.out (HAL.out _)))) ?_
  clear hK K hHeld
  intro hHeld
  try simp only [Act.put, List.getElem_toArray, List.getElem_cons_zero, List.getElem_cons_succ, List.setIfInBounds_toArray, List.set_cons_zero, List.set_cons_succ]
  refine wpAnyH_ready (rs := [29]) (by kernel_rfl) (by simp) ?_
  refine AllReadyH.cons rfl (fun K hK => ?_) AllReadyH.nil
  go_simp
  refine ((cat_own wi [(A2, c2, bs), (Aa, ca, putB k0 1), (Ab, cb, putB (nK : Int) 1 ++ ksB ks), (Ac, cc, putB pd 2), (Ad, cd, putB (fl ns) 1), (Ae, ce, putB f0 1), (Af, cf, putB t0 1), (Ag, cg, putB (nL : Int) 1 ++ lnsB ls), (Ah, ch, putB (nC : Int) 1 ++ insLB cs), (Ai, ci, putB (nR : Int) 1 ++ rlsB rs)] 10 _ _ rfl (by simp [pvb, HM.out]) (fun p hp => by
      simp only [List.mem_cons, List.not_mem_nil, or_false] at hp
      rcases hp with rfl | rfl | rfl | rfl | rfl | rfl | rfl | rfl | rfl | rfl
      · have := HSB.out wi (to_ HB0.out HBi.out)
        unfold pvb; rw [HM.out]; exact this
      · exact Hai.out
      · exact Hbi.out
      · exact Hci.out
      · exact Hdi.out
      · exact Hei.out
      · exact Hfi.out
      · exact Hgi.out
      · exact Hhi.out
      · exact Hi.out) (by have := HZ.out; simp only [List.flatMap_cons, List.flatMap_nil, List.length_append, List.append_nil] at this ⊢; omega) (by decide)).mono fun _ _ hh => obn_n (by rw [HFV.out]; simp [List.append_assoc]) HN9.out hh).mono ?_
  rintro e w9 ⟨A9, c9, rfl, h9, b9⟩
  have HB9 := Lib.hid (to_ (to_ HBi.out (HAL.out _)) b9)
  have H9 := Lib.hid h9
  clear b9 h9
  try go_wp2_with fail
  refine hK.out _ _ (blk9 (HX.out _ HB9.out)) ?_
  clear hK K hHeld
  intro hHeld
  try simp only [Act.put, List.getElem_toArray, List.getElem_cons_zero, List.getElem_cons_succ, List.setIfInBounds_toArray, List.set_cons_zero, List.set_cons_succ]
  refine wpAnyH_take (i := 30) rfl (by kernel_rfl) (by kernel_rfl) (by kernel_rfl) (fun _ _ _ h => h) (Or.inl ⟨by rfl, by intro W hSW; (try dsimp only at hSW); go_simp; try (with_reducible rfl)⟩) hHeld ?_
  try simp only [Act.put, List.getElem_toArray, List.getElem_cons_zero, List.getElem_cons_succ, List.setIfInBounds_toArray, List.set_cons_zero, List.set_cons_succ]
  refine wpAnyH_done (by kernel_rfl) ?_ _
  refine NoPanic.normal ?_
  go_wp2_with fail
  go_ret
  have h9 := own_lower (b := w.heap.size) (by have := HB0.out.size; have := HBi.out.size; have := (HAL.out (.cells #[] 5)).size; simp; omega) H9.out
  rw [HN9.out]
  exact ⟨A9, c9, rfl, h9, to_ HB0.out HB9.out⟩
end Go.Proofs.YtbknmapkdjmcjaaGreatDoor.By

namespace Go.Proofs.YtbknmapkdjmcjaaGreatDoor.By
open Go.RowKit
open Mem Gm Rf
set_option linter.unusedSimpArgs false
set_option linter.unusedVariables false

theorem slv_take {w : World} {B : Nat} {A : Option Addr} {n c k : Nat} {vs : List Value} (hn : vs.length = n) (h : SlV w B (.slice A n c) vs) (hk : k ≤ n) : SlV w B (.slice A k c) (vs.take k) := by
  cases h with
  | nil =>
    have : k = 0 := by omega
    subst this
    exact .nil
  | at_ ad cap _ hc hm h =>
    have hl : (vs.take k).length = k := by rw [List.length_take]; omega
    have h9 : SlV w B (.slice (some ad) (vs.take k).length c) (vs.take k) := .at_ ad c (vs.take k) (by omega) hm fun j u hu => by
      rw [List.getElem?_take] at hu
      split at hu
      · exact h j u hu
      · cases hu
    rwa [hl] at h9
theorem slv_cap9 {w : World} {B : Nat} {A : Option Addr} {n c : Nat} {vs : List Value} (hn : vs.length = n) (h : SlV w B (.slice A n c) vs) : n ≤ c := by
  cases h with
  | nil => exact Nat.zero_le _
  | at_ ad cap _ hc hm h => omega
theorem slv_join {w : World} {B : Nat} {v : Value} {a b : List UInt8} (h : SlV w B v (u8s a ++ u8s b)) : SlV w B v (u8s (a ++ b)) := by
  rw [u8s_append]
  exact h
theorem u8s_take (l : List UInt8) (k : Nat) : (u8s l).take k = u8s (l.take k) := by simp [u8s]

set_option maxRecDepth 100000 in
set_option maxHeartbeats 16000000 in
theorem funBack_any (w : World) (AK AL AC AR : Option Addr) (nK cK nL cL nC cC nR cR : Nat) (x : Fn) (A2 : Option Addr) (n2 c2 : Nat) (bs : List UInt8) (n : Int) (hF : FnW w AK nK cK AL nL cL AC nC cC AR nR cR x) (hb2 : SlV w w.heap.size (.slice A2 n2 c2) (u8s bs)) (hl2 : bs.length = n2) (hT : TX3 w) (h3 : 3 ≤ w.heap.size) :
    Calls Tryz.prog 5 #[.agg #[.int .i64 x.k, .slice AK nK cK, .int .i64 x.pd, .bool x.ns, .int .i64 x.f, .int .i64 x.t, .slice AL nL cL, .slice AC nC cC, .slice AR nR cR], .slice A2 n2 c2, .int .i64 n] w (TAns w) := by
  obtain ⟨i0, hi, hz0, hz1, hz2⟩ := info_parts info5
  obtain ⟨W1, hW1⟩ : ∃ W1, w.alloc (.cells #[.int .i64 x.k, .slice AK nK cK, .int .i64 x.pd, .bool x.ns, .int .i64 x.f, .int .i64 x.t, .slice AL nL cL, .slice AC nC cC, .slice AR nR cR] 27) = W1 := ⟨_, rfl⟩
  have hsz1 : w.heap.size < W1.heap.size := by rw [← hW1]; simp
  have HB0 := Lib.hid (show Below w.heap.size w W1 by rw [← hW1]; exact alloc_ _ _)
  have HX := Lib.hid (show ∀ W, Below W1.heap.size W1 W → Blk W w.heap.size 27 #[.int .i64 x.k, .slice AK nK cK, .int .i64 x.pd, .bool x.ns, .int .i64 x.f, .int .i64 x.t, .slice AL nL cL, .slice AC nC cC, .slice AR nR cR] from fun W hb => (hb.block _ hsz1).trans (by rw [← hW1]; exact Blk.new w _ _))
  have HFW := Lib.hid (fewF_any W1 x.k x.pd x.f x.t x.ns AK AL AC AR nK cK nL cL nC cC nR cR)
  have HKN := Lib.hid (fun W (hb : Below W1.heap.size W1 W) => known16_any W (hT.on (to_ HB0.out hb)) (by have := HB0.out.size; have := hb.size; omega))
  have HTX := Lib.hid (fun W (hb : Below W1.heap.size W1 W) => hT.on (to_ HB0.out hb))
  have HFX := Lib.hid (fun W (hb : Below W1.heap.size W1 W) => hF.on (to_ HB0.out hb))
  have HMO := Lib.hid (fun W (hb : Below W1.heap.size W1 W) => (show SlV W W.heap.size (.slice A2 n2 c2) (u8s bs) from (hb2.below (to_ HB0.out hb)).more (to_ HB0.out hb).size))
  have H3 := Lib.hid (show 3 ≤ W1.heap.size by have := HB0.out.size; omega)
  have HL2 := Lib.hid hl2
  obtain ⟨bf, hbf⟩ : ∃ b, fewB nK nL nC nR = b := ⟨_, rfl⟩
  rw [hbf] at HFW
  obtain ⟨p0, p1, p2, p3, p4, p5, p6, p7, p8⟩ := blk9 (HX.out W1 (Below.refl _ _))
  clear hT hb2 h3 hl2
  cases bf with
  | false =>
    clear hbf hF hsz1
    go_enter Tryz.func5, Tryz.ntmps5
    go_wp2_with fail
    refine HFW.out.mono ?_
    rintro e w1 ⟨rfl, b1⟩
    have HB1 := Lib.hid b1
    clear b1
    go_wp2_with fail
    refine (HKN.out _ HB1.out).mono ?_
    rintro e w9 ⟨rfl, b9⟩
    have HB9 := Lib.hid (to_ HB0.out (to_ HB1.out b9))
    clear b9
    go_wp2_with fail
    go_ret
    exact ⟨rfl, HB9.out⟩
  | true =>
    have hn : nK ≤ 100 ∧ nL ≤ 100 ∧ nC ≤ 100 ∧ nR ≤ 100 := by
      unfold fewB at hbf
      simp at hbf
      omega
    by_cases hm : 100 < n2
    · have hmI : (100 : Int) < (n2 : Int) := by omega
      clear hbf hF hsz1
      go_enter Tryz.func5, Tryz.ntmps5
      go_wp2_with fail
      refine HFW.out.mono ?_
      rintro e w1 ⟨rfl, b1⟩
      have HB1 := Lib.hid b1
      clear b1
      go_wp2_with fail
      refine (HKN.out _ HB1.out).mono ?_
      rintro e w9 ⟨rfl, b9⟩
      have HB9 := Lib.hid (to_ HB0.out (to_ HB1.out b9))
      clear b9
      go_wp2_with fail
      go_ret
      exact ⟨rfl, HB9.out⟩
    · have hmI : ¬ (100 : Int) < (n2 : Int) := by omega
      have HC := Lib.hid (fun W (hb : Below W1.heap.size W1 W) => chkF_any W AK AL AC AR nK cK nL cL nC cC nR cR x (HFX.out W hb) (HTX.out W hb) ⟨by omega, by omega, by omega, by omega⟩)
      by_cases hy : chF x = 0
      · rw [hy] at HC
        have hrm := rm_of_form hy
        have HBK := Lib.hid (fun tl => fun_back x tl hrm)
        have HSH := Lib.hid (fun k (hk : k < (fnB x).length) => fun_short x k hrm hk)
        have HPO := Lib.hid (fun W (hb : Below W1.heap.size W1 W) => putF_own W none 0 0 [] AK AL AC AR nK cK nL cL nC cC nR cR x rfl .nil (by omega) (HFX.out W hb) (by omega) (by omega) (by omega) (by omega))
        rw [List.nil_append] at HPO
        have hxk : x.ks.length = nK := (HFX.out W1 (Below.refl _ _)).hkl
        have hxl : x.ls.length = nL := (HFX.out W1 (Below.refl _ _)).hl.1
        have hxc : x.cs.length = nC := (HFX.out W1 (Below.refl _ _)).hc.1
        have hxr : x.rs.length = nR := (HFX.out W1 (Below.refl _ _)).hr.1
        have HNN := Lib.hid (show x.ks.length = nK ∧ x.ls.length = nL ∧ x.cs.length = nC ∧ x.rs.length = nR from ⟨hxk, hxl, hxc, hxr⟩)
        have hDl : (fnB x).length ≤ 10000 := by
          unfold fnB
          simp only [List.length_append, putB1, putB2, ksB_len, lnsB_len, insLB_len, rlsB_len]; omega
        obtain ⟨D, hD⟩ : ∃ D, (fnB x).length = D := ⟨_, rfl⟩
        rw [hD] at HPO hDl
        have HD := Lib.hid hD
        have HSM := Lib.hid (show nK ≤ 1000 ∧ nL ≤ 1000 ∧ nC ≤ 1000 ∧ nR ≤ 1000 from ⟨by omega, by omega, by omega, by omega⟩)
        have hD9 : D ≤ 10000 := hDl
        have HM9 := Lib.hid hm
        clear hbf hF hsz1 hn hrm hxk hxl hxc hxr hD hDl
        by_cases hs : 0 ≤ n ∧ n < (D : Int)
        · obtain ⟨hs0, hs1⟩ := hs
          obtain ⟨k, rfl⟩ := Int.eq_ofNat_of_zero_le hs0
          have hkD : k < D := by omega
          go_enter Tryz.func5, Tryz.ntmps5
          go_wp2_with fail
          refine HFW.out.mono ?_
          rintro e w1 ⟨rfl, b1⟩
          have HB1 := Lib.hid b1
          clear b1 hW1
          obtain ⟨p0, p1, p2, p3, p4, p5, p6, p7, p8⟩ := blk9 (HX.out w1 HB1.out)
          go_wp2_with fail
          refine (HC.out _ HB1.out).mono ?_
          rintro e w2 ⟨rfl, b2⟩
          have HB2 := Lib.hid (to_ HB1.out b2)
          clear b2
          obtain ⟨p0, p1, p2, p3, p4, p5, p6, p7, p8⟩ := blk9 (HX.out w2 HB2.out)
          go_wp2_with fail
          refine (HPO.out _ HB2.out).mono ?_
          rintro e w5 ⟨A5, c5, rfl, ho5, hb5⟩
          have HB5 := Lib.hid (to_ HB2.out hb5)
          have HO5 := Lib.hid ho5
          have HCP := Lib.hid (show D ≤ c5 from by have h9 := SlV.of_own ho5; exact slv_cap9 (by rw [u8s_length, HD.out]) h9)
          have HS2 := Lib.hid (show W1.heap.size ≤ w2.heap.size from HB2.out.size)
          have H25 := Lib.hid (show w2.heap.size ≤ w5.heap.size from hb5.size)
          clear ho5 hb5
          obtain ⟨p0, p1, p2, p3, p4, p5, p6, p7, p8⟩ := blk9 (HX.out w5 HB5.out)
          have hkc : (k : Int) ≤ (c5 : Int) := by have := HCP.out; omega
          have hkc2 : k ≤ c5 := by have := HCP.out; omega
          go_wp2_with fail
          refine (new_any (.slice A5 k c5) ((fnB x).take k) w5 _ (by have := slv_take (k := k) (by rw [u8s_length, HD.out]) (SlV.of_own HO5.out) (by omega); rwa [u8s_take] at this) (by rw [List.length_take, HD.out]; omega)).mono ?_
          rintro e w6 ⟨g6, A6, c6', rfl, hg6, hr6, hb6⟩
          have HB6 := Lib.hid (to_ HB5.out hb6)
          have H26 := Lib.hid (show w2.heap.size ≤ w6.heap.size from by have := H25.out; have := hb6.size; omega)
          have HO6 := Lib.hid (ownk_keep (w' := w6) HO5.out fun gg _ hlt => hb6.block gg hlt)
          have HG6 := Lib.hid hg6
          have HR6 := Lib.hid hr6
          clear hg6 hr6 hb6
          go_wp2_with fail
          refine (getF_any w6 (some ⟨g6, 0, none⟩) (some g6) A6 c6' ((fnB x).take k) (0, true) (.inl ⟨g6, rfl, rfl, HR6.out⟩) (HTX.out w6 HB6.out).1 (fun y e => by injection e with e; subst e; exact ⟨by have := HG6.out; have := HB5.out.size; have := H3.out; omega, HR6.out.blk.lt⟩) (by have := HB6.out.size; have := H3.out; omega)).mono ?_
          rintro e w7 ⟨BK, dK, BL, dL, BC, dC, BR, dR, h71, h72, _, h74⟩
          have h71' : e = .returned (.tuple #[.agg #[.int .i64 0, .slice BK 0 dK, .int .i64 0, .bool false, .int .i64 0, .int .i64 0, .slice BL 0 dL, .slice BC 0 dC, .slice BR 0 dR], .int .i64 5]) := by
            rw [(HSH.out k (by rw [HD.out]; exact hkD)).1, (HSH.out k (by rw [HD.out]; exact hkD)).2] at h71
            exact h71
          rw [(HSH.out k (by rw [HD.out]; exact hkD)).1] at h72
          clear h71
          subst h71'
          have HB7 := Lib.hid (show Below W1.heap.size W1 w7 from HB6.out.grown h74 HB6.out.size (fun r e => by injection e with e; have := HG6.out; have := HB5.out.size; omega))
          have H27 := Lib.hid (show w2.heap.size ≤ w7.heap.size from by have := H26.out; have := h74.size; omega)
          have HO7 := Lib.hid (own_keep1 (w' := w7) HO6.out fun gg hb hlt ho => h74.block gg hlt (fun e => by injection e with e; have := (HO5.out.lt gg ho).2; have := HG6.out; omega))
          have HZ7 := Lib.hid (show FnW w7 BK 0 dK BL 0 dL BC 0 dC BR 0 dR fn0 from h72)
          clear h72 h74
          obtain ⟨W8, hW8⟩ : ∃ W8, w7.alloc (.cells #[.int .i64 0, .slice BK 0 dK, .int .i64 0, .bool false, .int .i64 0, .int .i64 0, .slice BL 0 dL, .slice BC 0 dC, .slice BR 0 dR] 27) = W8 := ⟨_, rfl⟩
          have HB8 := Lib.hid (show Below W1.heap.size W1 W8 from by rw [← hW8]; exact to_ HB7.out (alloc_ _ _))
          have HO8 := Lib.hid (show W8.ownsRow w2.heap.size 5 1 (.slice A5 D c5) D (u8s (fnB x)) from by rw [← hW8]; exact ownk_keep HO7.out fun gg _ hlt => Below.heap_alloc _ _ _ hlt)
          have HZ8 := Lib.hid (show FnW W8 BK 0 dK BL 0 dL BC 0 dC BR 0 dR fn0 from by rw [← hW8]; exact HZ7.out.on (alloc_ _ _))
          have hk8 : Blk W8 w7.heap.size 27 #[.int .i64 0, .slice BK 0 dK, .int .i64 0, .bool false, .int .i64 0, .int .i64 0, .slice BL 0 dL, .slice BC 0 dC, .slice BR 0 dR] := by rw [← hW8]; exact Blk.new w7 _ _
          obtain ⟨d0, d1, d2, d3, d4, d5, d6, d7, d8⟩ := blk9 hk8
          clear hk8
          go_wp2_with fail
          refine (show Calls Tryz.prog 27 #[.agg #[.int .i64 0, .slice BK 0 dK, .int .i64 0, .bool false, .int .i64 0, .int .i64 0, .slice BL 0 dL, .slice BC 0 dC, .slice BR 0 dR], .agg #[.int .i64 0, .slice none 0 0, .int .i64 0, .bool false, .int .i64 0, .int .i64 0, .slice none 0 0, .slice none 0 0, .slice none 0 0]] W8 (TAns W8) from sameF_same W8 BK BL BC BR none none none none 0 dK 0 dL 0 dC 0 dR 0 0 0 0 fn0 HZ8.out ⟨.nil, rfl, Wd.nil, Wd.nil, Wd.nil⟩ (by omega) (by omega) (by omega) (by omega)).mono ?_
          rintro e wz ⟨rfl, bz⟩
          have HBZ := Lib.hid (to_ HB8.out bz)
          have HBZ2 := Lib.hid (show w2.heap.size ≤ wz.heap.size from by have h1 := H27.out; have h2 := bz.size; have h3 : w7.heap.size ≤ W8.heap.size := by rw [← hW8]; simp
                                                                         omega)
          have HOZ := Lib.hid (ownk_keep (w' := wz) HO8.out fun gg _ hlt => bz.block gg hlt)
          clear bz hW8
          go_wp2_with (at_builtin; go_must (refine wpList_append_slv _ rfl _ _ 35 rfl w2.heap.size 5 i0 (.int .u8 0) 1 Tryz.underlying35 hi hz0 hz1 hz2 rfl _ (u8s (fnB x)) rfl (by rw [u8s_length, HD.out]; exact HOZ.out) _ (.slice A2 n2 c2) (u8s bs) rfl (HMO.out wz HBZ.out) (u8s_one _) (by rw [u8s_length, u8s_length, HD.out, HL2.out]; have := HM9.out; unfold maxLen; omega) (by rw [u8s_length, u8s_length, HD.out, HL2.out]; have := HM9.out; omega) (by have := HB2.out.size; have := HBZ2.out; omega) ?_); intro v6 wA hownA hgA)
          obtain ⟨AA, cA, rfl⟩ := own_formW hownA
          have hBA : Below W1.heap.size W1 wA := HBZ.out.grown hgA HBZ.out.size (fun r e => by have := (HOZ.out.lt r e).1; have := HB2.out.size; omega)
          have HBA := Lib.hid hBA
          have hvA := slv_join (SlV.of_own hownA)
          have HVA := Lib.hid hvA
          clear hownA hgA hBA hvA
          go_wp2_with fail
          refine (new_any _ (fnB x ++ bs) wA _ HVA.out (by rw [List.length_append, HD.out, HL2.out]; have := HM9.out; omega)).mono ?_
          rintro e wB ⟨gB, AB, cB', rfl, hgB, hrB, hbB⟩
          have HBB := Lib.hid (to_ HBA.out hbB)
          have HGB := Lib.hid hgB
          have HRB := Lib.hid hrB
          clear hgB hrB hbB
          go_wp2_with fail
          refine (getF_any wB (some ⟨gB, 0, none⟩) (some gB) AB cB' (fnB x ++ bs) (0, true) (.inl ⟨gB, rfl, rfl, HRB.out⟩) (HTX.out wB HBB.out).1 (fun y e => by injection e with e; subst e; exact ⟨by have := HGB.out; have := HBA.out.size; have := H3.out; omega, HRB.out.blk.lt⟩) (by have := HBB.out.size; have := H3.out; omega)).mono ?_
          rintro e wC ⟨EK, eK, EL, eL, EC, eC, ER, eR, hC1, hC2, hC3, hC4⟩
          obtain ⟨q1, q2, q3⟩ := HBK.out bs
          rw [q1, q2] at hC1
          rw [q1] at hC2
          rw [q3, HD.out] at hC3
          obtain ⟨y1, y2, y3, y4⟩ := HNN.out
          rw [y1, y2, y3, y4] at hC1 hC2
          subst hC1
          have HBC := Lib.hid (show Below W1.heap.size W1 wC from HBB.out.grown hC4 HBB.out.size (fun r e => by injection e with e; have := HGB.out; have := HBA.out.size; omega))
          have hRC : Rdr wC gB AB cB' (fnB x ++ bs) D true := by
            rcases hC3 with ⟨g, e1, e2, h9⟩ | ⟨e1, _⟩
            · injection e2 with e2; subst e2; exact h9
            · cases e1
          have HRC := Lib.hid hRC
          have HFC := Lib.hid hC2
          clear hC2 hC3 hC4 hRC q1 q2 q3 y1 y2 y3 y4
          obtain ⟨WD, hWD⟩ : ∃ WD, wC.alloc (.cells #[.int .i64 x.k, .slice EK nK eK, .int .i64 x.pd, .bool x.ns, .int .i64 x.f, .int .i64 x.t, .slice EL nL eL, .slice EC nC eC, .slice ER nR eR] 27) = WD := ⟨_, rfl⟩
          have HBD := Lib.hid (show Below W1.heap.size W1 WD from by rw [← hWD]; exact to_ HBC.out (alloc_ _ _))
          have HRD := Lib.hid (show Rdr WD gB AB cB' (fnB x ++ bs) D true from by rw [← hWD]; exact HRC.out.below (alloc_ wC _) HRC.out.blk.lt)
          have HFD := Lib.hid (show FnW WD EK nK eK EL nL eL EC nC eC ER nR eR x from by rw [← hWD]; exact HFC.out.on (alloc_ _ _))
          have hkD9 : Blk WD wC.heap.size 27 #[.int .i64 x.k, .slice EK nK eK, .int .i64 x.pd, .bool x.ns, .int .i64 x.f, .int .i64 x.t, .slice EL nL eL, .slice EC nC eC, .slice ER nR eR] := by rw [← hWD]; exact Blk.new wC _ _
          obtain ⟨d0, d1, d2, d3, d4, d5, d6, d7, d8⟩ := blk9 hkD9
          obtain ⟨p0, p1, p2, p3, p4, p5, p6, p7, p8⟩ := blk9 (HX.out WD HBD.out)
          clear hkD9
          go_wp2_with fail
          refine (sameF_same WD EK EL EC ER AK AL AC AR nK eK nL eL nC eC nR eR cK cL cC cR x HFD.out (HFX.out WD HBD.out) HSM.out.1 HSM.out.2.1 HSM.out.2.2.1 HSM.out.2.2.2).mono ?_
          rintro e wE ⟨rfl, bE⟩
          have HBE := Lib.hid (to_ HBD.out bE)
          have HRE := Lib.hid (HRD.out.below bE HRD.out.blk.lt)
          clear bE hWD
          go_wp2_with fail
          refine (at_any wE gB AB cB' (fnB x ++ bs) D true HRE.out).mono ?_
          rintro e wF ⟨rfl, rfl⟩
          go_wp2_with fail
          refine (HKN.out _ HBE.out).mono ?_
          rintro e wG ⟨rfl, bG⟩
          have HBG := Lib.hid (to_ HB0.out (to_ HBE.out bG))
          clear bG
          go_wp2_with fail
          go_ret
          exact ⟨rfl, HBG.out⟩
        · have hs' : n < 0 ∨ (D : Int) ≤ n := by omega
          rcases hs' with hs' | hs'
          · have hs2 : ¬ 0 ≤ n := by omega
            go_enter Tryz.func5, Tryz.ntmps5
            go_wp2_with fail
            refine HFW.out.mono ?_
            rintro e w1 ⟨rfl, b1⟩
            have HB1 := Lib.hid b1
            clear b1 hW1
            obtain ⟨p0, p1, p2, p3, p4, p5, p6, p7, p8⟩ := blk9 (HX.out w1 HB1.out)
            go_wp2_with fail
            refine (HC.out _ HB1.out).mono ?_
            rintro e w2 ⟨rfl, b2⟩
            have HB2 := Lib.hid (to_ HB1.out b2)
            clear b2
            obtain ⟨p0, p1, p2, p3, p4, p5, p6, p7, p8⟩ := blk9 (HX.out w2 HB2.out)
            go_wp2_with fail
            refine (HPO.out _ HB2.out).mono ?_
            rintro e w5 ⟨A5, c5, rfl, ho5, hb5⟩
            have HB5 := Lib.hid (to_ HB2.out hb5)
            have HO5 := Lib.hid ho5
            have HCP := Lib.hid (show D ≤ c5 from by have h9 := SlV.of_own ho5; exact slv_cap9 (by rw [u8s_length, HD.out]) h9)
            have HS2 := Lib.hid (show W1.heap.size ≤ w2.heap.size from HB2.out.size)
            have H25 := Lib.hid (show w2.heap.size ≤ w5.heap.size from hb5.size)
            clear ho5 hb5
            obtain ⟨p0, p1, p2, p3, p4, p5, p6, p7, p8⟩ := blk9 (HX.out w5 HB5.out)
            have HBZ := Lib.hid HB5.out
            have HOZ := Lib.hid HO5.out
            have HBZ2 := Lib.hid H25.out
            obtain ⟨wz, hwz⟩ : ∃ wz, wz = w5 := ⟨_, rfl⟩
            subst hwz
            go_wp2_with (at_builtin; go_must (refine wpList_append_slv _ rfl _ _ 35 rfl w2.heap.size 5 i0 (.int .u8 0) 1 Tryz.underlying35 hi hz0 hz1 hz2 rfl _ (u8s (fnB x)) rfl (by rw [u8s_length, HD.out]; exact HOZ.out) _ (.slice A2 n2 c2) (u8s bs) rfl (HMO.out wz HBZ.out) (u8s_one _) (by rw [u8s_length, u8s_length, HD.out, HL2.out]; have := HM9.out; unfold maxLen; omega) (by rw [u8s_length, u8s_length, HD.out, HL2.out]; have := HM9.out; omega) (by have := HB2.out.size; have := HBZ2.out; omega) ?_); intro v6 wA hownA hgA)
            obtain ⟨AA, cA, rfl⟩ := own_formW hownA
            have hBA : Below W1.heap.size W1 wA := HBZ.out.grown hgA HBZ.out.size (fun r e => by have := (HOZ.out.lt r e).1; have := HB2.out.size; omega)
            have HBA := Lib.hid hBA
            have hvA := slv_join (SlV.of_own hownA)
            have HVA := Lib.hid hvA
            clear hownA hgA hBA hvA
            go_wp2_with fail
            refine (new_any _ (fnB x ++ bs) wA _ HVA.out (by rw [List.length_append, HD.out, HL2.out]; have := HM9.out; omega)).mono ?_
            rintro e wB ⟨gB, AB, cB', rfl, hgB, hrB, hbB⟩
            have HBB := Lib.hid (to_ HBA.out hbB)
            have HGB := Lib.hid hgB
            have HRB := Lib.hid hrB
            clear hgB hrB hbB
            go_wp2_with fail
            refine (getF_any wB (some ⟨gB, 0, none⟩) (some gB) AB cB' (fnB x ++ bs) (0, true) (.inl ⟨gB, rfl, rfl, HRB.out⟩) (HTX.out wB HBB.out).1 (fun y e => by injection e with e; subst e; exact ⟨by have := HGB.out; have := HBA.out.size; have := H3.out; omega, HRB.out.blk.lt⟩) (by have := HBB.out.size; have := H3.out; omega)).mono ?_
            rintro e wC ⟨EK, eK, EL, eL, EC, eC, ER, eR, hC1, hC2, hC3, hC4⟩
            obtain ⟨q1, q2, q3⟩ := HBK.out bs
            rw [q1, q2] at hC1
            rw [q1] at hC2
            rw [q3, HD.out] at hC3
            obtain ⟨y1, y2, y3, y4⟩ := HNN.out
            rw [y1, y2, y3, y4] at hC1 hC2
            subst hC1
            have HBC := Lib.hid (show Below W1.heap.size W1 wC from HBB.out.grown hC4 HBB.out.size (fun r e => by injection e with e; have := HGB.out; have := HBA.out.size; omega))
            have hRC : Rdr wC gB AB cB' (fnB x ++ bs) D true := by
              rcases hC3 with ⟨g, e1, e2, h9⟩ | ⟨e1, _⟩
              · injection e2 with e2; subst e2; exact h9
              · cases e1
            have HRC := Lib.hid hRC
            have HFC := Lib.hid hC2
            clear hC2 hC3 hC4 hRC q1 q2 q3 y1 y2 y3 y4
            obtain ⟨WD, hWD⟩ : ∃ WD, wC.alloc (.cells #[.int .i64 x.k, .slice EK nK eK, .int .i64 x.pd, .bool x.ns, .int .i64 x.f, .int .i64 x.t, .slice EL nL eL, .slice EC nC eC, .slice ER nR eR] 27) = WD := ⟨_, rfl⟩
            have HBD := Lib.hid (show Below W1.heap.size W1 WD from by rw [← hWD]; exact to_ HBC.out (alloc_ _ _))
            have HRD := Lib.hid (show Rdr WD gB AB cB' (fnB x ++ bs) D true from by rw [← hWD]; exact HRC.out.below (alloc_ wC _) HRC.out.blk.lt)
            have HFD := Lib.hid (show FnW WD EK nK eK EL nL eL EC nC eC ER nR eR x from by rw [← hWD]; exact HFC.out.on (alloc_ _ _))
            have hkD9 : Blk WD wC.heap.size 27 #[.int .i64 x.k, .slice EK nK eK, .int .i64 x.pd, .bool x.ns, .int .i64 x.f, .int .i64 x.t, .slice EL nL eL, .slice EC nC eC, .slice ER nR eR] := by rw [← hWD]; exact Blk.new wC _ _
            obtain ⟨d0, d1, d2, d3, d4, d5, d6, d7, d8⟩ := blk9 hkD9
            obtain ⟨p0, p1, p2, p3, p4, p5, p6, p7, p8⟩ := blk9 (HX.out WD HBD.out)
            clear hkD9
            go_wp2_with fail
            refine (sameF_same WD EK EL EC ER AK AL AC AR nK eK nL eL nC eC nR eR cK cL cC cR x HFD.out (HFX.out WD HBD.out) HSM.out.1 HSM.out.2.1 HSM.out.2.2.1 HSM.out.2.2.2).mono ?_
            rintro e wE ⟨rfl, bE⟩
            have HBE := Lib.hid (to_ HBD.out bE)
            have HRE := Lib.hid (HRD.out.below bE HRD.out.blk.lt)
            clear bE hWD
            go_wp2_with fail
            refine (at_any wE gB AB cB' (fnB x ++ bs) D true HRE.out).mono ?_
            rintro e wF ⟨rfl, rfl⟩
            go_wp2_with fail
            refine (HKN.out _ HBE.out).mono ?_
            rintro e wG ⟨rfl, bG⟩
            have HBG := Lib.hid (to_ HB0.out (to_ HBE.out bG))
            clear bG
            go_wp2_with fail
            go_ret
            exact ⟨rfl, HBG.out⟩
          · have hs2 : 0 ≤ n := by omega
            have hs3 : ¬ n < (D : Int) := by omega
            go_enter Tryz.func5, Tryz.ntmps5
            go_wp2_with fail
            refine HFW.out.mono ?_
            rintro e w1 ⟨rfl, b1⟩
            have HB1 := Lib.hid b1
            clear b1 hW1
            obtain ⟨p0, p1, p2, p3, p4, p5, p6, p7, p8⟩ := blk9 (HX.out w1 HB1.out)
            go_wp2_with fail
            refine (HC.out _ HB1.out).mono ?_
            rintro e w2 ⟨rfl, b2⟩
            have HB2 := Lib.hid (to_ HB1.out b2)
            clear b2
            obtain ⟨p0, p1, p2, p3, p4, p5, p6, p7, p8⟩ := blk9 (HX.out w2 HB2.out)
            go_wp2_with fail
            refine (HPO.out _ HB2.out).mono ?_
            rintro e w5 ⟨A5, c5, rfl, ho5, hb5⟩
            have HB5 := Lib.hid (to_ HB2.out hb5)
            have HO5 := Lib.hid ho5
            have HCP := Lib.hid (show D ≤ c5 from by have h9 := SlV.of_own ho5; exact slv_cap9 (by rw [u8s_length, HD.out]) h9)
            have HS2 := Lib.hid (show W1.heap.size ≤ w2.heap.size from HB2.out.size)
            have H25 := Lib.hid (show w2.heap.size ≤ w5.heap.size from hb5.size)
            clear ho5 hb5
            obtain ⟨p0, p1, p2, p3, p4, p5, p6, p7, p8⟩ := blk9 (HX.out w5 HB5.out)
            have HBZ := Lib.hid HB5.out
            have HOZ := Lib.hid HO5.out
            have HBZ2 := Lib.hid H25.out
            obtain ⟨wz, hwz⟩ : ∃ wz, wz = w5 := ⟨_, rfl⟩
            subst hwz
            go_wp2_with (at_builtin; go_must (refine wpList_append_slv _ rfl _ _ 35 rfl w2.heap.size 5 i0 (.int .u8 0) 1 Tryz.underlying35 hi hz0 hz1 hz2 rfl _ (u8s (fnB x)) rfl (by rw [u8s_length, HD.out]; exact HOZ.out) _ (.slice A2 n2 c2) (u8s bs) rfl (HMO.out wz HBZ.out) (u8s_one _) (by rw [u8s_length, u8s_length, HD.out, HL2.out]; have := HM9.out; unfold maxLen; omega) (by rw [u8s_length, u8s_length, HD.out, HL2.out]; have := HM9.out; omega) (by have := HB2.out.size; have := HBZ2.out; omega) ?_); intro v6 wA hownA hgA)
            obtain ⟨AA, cA, rfl⟩ := own_formW hownA
            have hBA : Below W1.heap.size W1 wA := HBZ.out.grown hgA HBZ.out.size (fun r e => by have := (HOZ.out.lt r e).1; have := HB2.out.size; omega)
            have HBA := Lib.hid hBA
            have hvA := slv_join (SlV.of_own hownA)
            have HVA := Lib.hid hvA
            clear hownA hgA hBA hvA
            go_wp2_with fail
            refine (new_any _ (fnB x ++ bs) wA _ HVA.out (by rw [List.length_append, HD.out, HL2.out]; have := HM9.out; omega)).mono ?_
            rintro e wB ⟨gB, AB, cB', rfl, hgB, hrB, hbB⟩
            have HBB := Lib.hid (to_ HBA.out hbB)
            have HGB := Lib.hid hgB
            have HRB := Lib.hid hrB
            clear hgB hrB hbB
            go_wp2_with fail
            refine (getF_any wB (some ⟨gB, 0, none⟩) (some gB) AB cB' (fnB x ++ bs) (0, true) (.inl ⟨gB, rfl, rfl, HRB.out⟩) (HTX.out wB HBB.out).1 (fun y e => by injection e with e; subst e; exact ⟨by have := HGB.out; have := HBA.out.size; have := H3.out; omega, HRB.out.blk.lt⟩) (by have := HBB.out.size; have := H3.out; omega)).mono ?_
            rintro e wC ⟨EK, eK, EL, eL, EC, eC, ER, eR, hC1, hC2, hC3, hC4⟩
            obtain ⟨q1, q2, q3⟩ := HBK.out bs
            rw [q1, q2] at hC1
            rw [q1] at hC2
            rw [q3, HD.out] at hC3
            obtain ⟨y1, y2, y3, y4⟩ := HNN.out
            rw [y1, y2, y3, y4] at hC1 hC2
            subst hC1
            have HBC := Lib.hid (show Below W1.heap.size W1 wC from HBB.out.grown hC4 HBB.out.size (fun r e => by injection e with e; have := HGB.out; have := HBA.out.size; omega))
            have hRC : Rdr wC gB AB cB' (fnB x ++ bs) D true := by
              rcases hC3 with ⟨g, e1, e2, h9⟩ | ⟨e1, _⟩
              · injection e2 with e2; subst e2; exact h9
              · cases e1
            have HRC := Lib.hid hRC
            have HFC := Lib.hid hC2
            clear hC2 hC3 hC4 hRC q1 q2 q3 y1 y2 y3 y4
            obtain ⟨WD, hWD⟩ : ∃ WD, wC.alloc (.cells #[.int .i64 x.k, .slice EK nK eK, .int .i64 x.pd, .bool x.ns, .int .i64 x.f, .int .i64 x.t, .slice EL nL eL, .slice EC nC eC, .slice ER nR eR] 27) = WD := ⟨_, rfl⟩
            have HBD := Lib.hid (show Below W1.heap.size W1 WD from by rw [← hWD]; exact to_ HBC.out (alloc_ _ _))
            have HRD := Lib.hid (show Rdr WD gB AB cB' (fnB x ++ bs) D true from by rw [← hWD]; exact HRC.out.below (alloc_ wC _) HRC.out.blk.lt)
            have HFD := Lib.hid (show FnW WD EK nK eK EL nL eL EC nC eC ER nR eR x from by rw [← hWD]; exact HFC.out.on (alloc_ _ _))
            have hkD9 : Blk WD wC.heap.size 27 #[.int .i64 x.k, .slice EK nK eK, .int .i64 x.pd, .bool x.ns, .int .i64 x.f, .int .i64 x.t, .slice EL nL eL, .slice EC nC eC, .slice ER nR eR] := by rw [← hWD]; exact Blk.new wC _ _
            obtain ⟨d0, d1, d2, d3, d4, d5, d6, d7, d8⟩ := blk9 hkD9
            obtain ⟨p0, p1, p2, p3, p4, p5, p6, p7, p8⟩ := blk9 (HX.out WD HBD.out)
            clear hkD9
            go_wp2_with fail
            refine (sameF_same WD EK EL EC ER AK AL AC AR nK eK nL eL nC eC nR eR cK cL cC cR x HFD.out (HFX.out WD HBD.out) HSM.out.1 HSM.out.2.1 HSM.out.2.2.1 HSM.out.2.2.2).mono ?_
            rintro e wE ⟨rfl, bE⟩
            have HBE := Lib.hid (to_ HBD.out bE)
            have HRE := Lib.hid (HRD.out.below bE HRD.out.blk.lt)
            clear bE hWD
            go_wp2_with fail
            refine (at_any wE gB AB cB' (fnB x ++ bs) D true HRE.out).mono ?_
            rintro e wF ⟨rfl, rfl⟩
            go_wp2_with fail
            refine (HKN.out _ HBE.out).mono ?_
            rintro e wG ⟨rfl, bG⟩
            have HBG := Lib.hid (to_ HB0.out (to_ HBE.out bG))
            clear bG
            go_wp2_with fail
            go_ret
            exact ⟨rfl, HBG.out⟩
      · have hy2 : (chF x == 0) = false := by simp [hy]
        have hy3 : (chF x != 0) = true := by simp [hy]
        generalize chF x = y at HC hy2 hy3
        clear hbf hF hsz1 hn hy
        go_enter Tryz.func5, Tryz.ntmps5
        go_wp2_with fail
        refine HFW.out.mono ?_
        rintro e w1 ⟨rfl, b1⟩
        have HB1 := Lib.hid b1
        clear b1
        obtain ⟨p0, p1, p2, p3, p4, p5, p6, p7, p8⟩ := blk9 (HX.out w1 HB1.out)
        go_wp2_with fail
        refine (HC.out _ HB1.out).mono ?_
        rintro e w2 ⟨rfl, b2⟩
        have HB2 := Lib.hid (to_ HB1.out b2)
        clear b2
        go_wp2_with fail
        refine (HKN.out _ HB2.out).mono ?_
        rintro e w9 ⟨rfl, b9⟩
        have HB9 := Lib.hid (to_ HB0.out (to_ HB2.out b9))
        clear b9
        go_wp2_with fail
        go_ret
        exact ⟨rfl, HB9.out⟩
end Go.Proofs.YtbknmapkdjmcjaaGreatDoor.By
