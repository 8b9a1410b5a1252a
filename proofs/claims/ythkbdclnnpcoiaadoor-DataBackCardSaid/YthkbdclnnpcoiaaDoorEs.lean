/-
  WALKS of layer 15: the fixed calls.
-/
import Derived.Test.YthkbdclnnpcoiaaDoorEr
import Derived.Test.YthkbdclnnpcoiaaDoorEi
import Derived.Test.YthkbdclnnpcoiaaDoorEm
namespace Go.Proofs.YthkbdclnnpcoiaaDoor.By
open Go.RowKit
open Mem Gm Rf
set_option linter.unusedSimpArgs false
set_option linter.unusedVariables false

def kW : List Int := [0, 0]
def kR : List Rl := [(1, 0, true)]
def kS : List Sy := [(⟨#[102]⟩, false, 1, 0, 0)]
def kB : List UInt8 := [] ++ dtB 1 kW kR
theorem kck1 : chkD 1 kW 1 kR kS = 0 := by decide +kernel
theorem kck2 : chkD 1 kW 0 kR [] = 11 := by decide +kernel
theorem kck3 : chkD 9 [] 0 [] [] = 8 := by decide +kernel
theorem klen : kB.length = 22 := by decide +kernel
theorem kgd : (gdV kB (0, true)).er = 0 ∧ (gdV kB (0, true)).kd = 1 ∧ (gdV kB (0, true)).ws = kW ∧ (gdV kB (0, true)).rs = kR := by decide +kernel
theorem krf : rfL kR 1 2 = [-1, 0] := by decide +kernel
theorem kfm : fmL kR 1 2 = [-1, 0] := by decide +kernel

theorem wd_one {α : Type} {k : Nat} {enc : α → List Value} {w : World} {b : Nat} {t : TypeId} {cs : Array Value} (x : α) (hb : Blk w b t cs) (hc : ∀ (j : Nat) u, (enc x)[j]? = some u → cs[j]? = some u) : Wd k enc w w.heap.size (some ⟨b, 0, none⟩) 1 1 [x] :=
  ⟨rfl, Nat.le_refl _, by unfold maxLen; omega, nofun, fun i y hi => by
    match i, hi with
    | 0, hi =>
      simp only [List.getElem?_cons_zero, Option.some.injEq] at hi
      subst hi
      exact ⟨_, rfl, hb.lt, fun j u hu => by rw [add_plain, add_plain, Nat.zero_mul, Nat.zero_add, hb.cell]; exact hc j u hu⟩⟩
theorem blk_at {w : World} {n m : Nat} {t : TypeId} {cs : Array Value} (h : Blk w n t cs) (e : n = m) : Blk w m t cs := e ▸ h
def TX (w : World) : Prop := Si.Txs w
theorem TX.on {w w' : World} (h : TX w) (hb : Below w.heap.size w w') : TX w' := Si.Txs.below h hb
def BK (w : World) (b : Nat) (a c d : Value) : Prop := Blk w b 25 #[a, c, d]
theorem BK.on {w w' : World} {b : Nat} {a c d : Value} (h : BK w b a c d) (hb : Below w.heap.size w w') : BK w' b a c d := Blk.below h hb (Blk.lt h)
theorem BK.cells {w : World} {b : Nat} {a c d : Value} (h : BK w b a c d) : w.cell? ⟨b, 0, none⟩ = some a ∧ w.cell? ⟨b, 1, none⟩ = some c ∧ w.cell? ⟨b, 2, none⟩ = some d := blk3 h
theorem ck_w {w : World} {kd x : Int} {AW AR AS : Option Addr} {nW cW nR cR nS cS : Nat} {ws : List Int} {rs : List Rl} {ss : List Sy} (hT : TX w) (h1 : IW w (.slice AW nW cW) ws) (h2 : RlL w AR nR cR rs) (h3 : SyL w AS nS cS ss) (hx : chkD kd ws nS rs ss = x) (hL : ws.length = nW) (hb : -9223372036854775808 ≤ kd ∧ kd ≤ 9223372036854775807) (hn : nW ≤ 1000000 ∧ nR ≤ 1000000) :
    Calls Tryd.prog 8 #[.agg #[.int .i64 kd, .slice AW nW cW, .slice AR nR cR], .slice AS nS cS] w (CkD x w) := by
  rw [← hx]; exact checkD_any w kd AW AR AS nW cW nR cR nS cS ws rs ss hb.1 hb.2 hT h1 hL hn.1 h2 hn.2 h3
theorem put_w {w : World} {AW AR : Option Addr} {cW cR : Nat} (h1 : IW w (.slice AW 2 cW) kW) (h2 : RlL w AR 1 cR kR) :
    Calls Tryd.prog 15 #[.slice none 0 0, .agg #[.int .i64 1, .slice AW 2 cW, .slice AR 1 cR]] w fun e w' => ∃ A c, e = .returned (.slice A 22 c) ∧ SlV w' w'.heap.size (.slice A 22 c) (u8s kB) ∧ Below w.heap.size w w' := by
  refine (putD_any w none 0 0 [] 1 AW AR 2 cW 1 cR kW kR rfl .nil (by omega) h1 rfl (by omega) h2 (by omega)).mono fun e w' h => ?_
  obtain ⟨A, c, h3, h4, h5⟩ := h
  have h9 := klen
  unfold kB at h9
  rw [h9] at h3 h4
  exact ⟨A, c, h3, h4, h5⟩
theorem get_w {w : World} {g : Nat} {A : Option Addr} {c : Nat} (h : Rdr w g A c kB 0 true) :
    Calls Tryd.prog 18 #[.pointer (some ⟨g, 0, none⟩)] w fun e w' => ∃ AW cW AR cR, e = .returned (.tuple #[.agg #[.int .i64 1, .slice AW 2 cW, .slice AR 1 cR], .int .i64 0]) ∧ IW w' (.slice AW 2 cW) kW ∧ RlL w' AR 1 cR kR ∧ w.grownBy w' (some g) := by
  refine (getD_any w g A c kB (0, true) h).mono fun e w' hh => ?_
  obtain ⟨e0, e1, e2, e3⟩ := kgd
  obtain ⟨AW, cW, AR, cR, h1, h2, h3, h4, h5⟩ := hh
  rw [e0, e1, e2, e3] at h1
  rw [e2] at h2
  rw [e3] at h3
  exact ⟨AW, cW, AR, cR, h1, h2, h3, h5⟩
theorem cmp_w {w : World} {A : Option Addr} {c : Nat} (h : IW w (.slice A 2 c) [-1, 0]) : Calls Tryd.prog 10 #[.slice A 2 c, .slice (some ⟨w.heap.size, 0, none⟩) 2 2] (w.alloc (.cells #[.int .i64 (-1), .int .i64 0] 3)) (TAns (w.alloc (.cells #[.int .i64 (-1), .int .i64 0] 3))) :=
  ints_w (L := 2) (l := [-1, 0]) rfl (h.on (alloc_ _ _)) (IW.lit [-1, 0] 2 (Blk.new w 3 _) rfl rfl (by decide)) (by decide)
theorem kspec : ∃ bs : List UInt8,
    (∀ (w : World) (AW AR : Option Addr) (cW cR : Nat), IW w (.slice AW 2 cW) kW → RlL w AR 1 cR kR → Calls Tryd.prog 15 #[.slice none 0 0, .agg #[.int .i64 1, .slice AW 2 cW, .slice AR 1 cR]] w fun e w' => ∃ A c, e = .returned (.slice A 22 c) ∧ SlV w' w'.heap.size (.slice A 22 c) (u8s bs) ∧ Below w.heap.size w w') ∧
    (∀ (w : World) (B : Nat) (v : Value), SlV w B v (u8s bs) → Calls Tryd.prog 17 #[v] w (Made w bs)) ∧
    (∀ (w : World) (g : Nat) (A : Option Addr) (c : Nat), Rdr w g A c bs 0 true → Calls Tryd.prog 18 #[.pointer (some ⟨g, 0, none⟩)] w fun e w' => ∃ AW cW AR cR, e = .returned (.tuple #[.agg #[.int .i64 1, .slice AW 2 cW, .slice AR 1 cR], .int .i64 0]) ∧ IW w' (.slice AW 2 cW) kW ∧ RlL w' AR 1 cR kR ∧ w.grownBy w' (some g)) :=
  ⟨kB, fun _ _ _ _ _ h1 h2 => put_w h1 h2, fun w B v h => new_any v kB w B h (Nat.le_trans (Nat.le_of_eq klen) (by decide)), fun _ _ _ _ h => get_w h⟩
theorem refs_w {w : World} {kd : Int} {AW AR : Option Addr} {nW cW nR cR : Nat} {rs : List Rl} {o : List Int} (h : RlL w AR nR cR rs) (ho : rfL rs nR nW = o) (hR : nR ≤ 1000000 ∧ nW ≤ 4096) :
    Calls Tryd.prog 11 #[.agg #[.int .i64 kd, .slice AW nW cW, .slice AR nR cR]] w (IAns nW o w) := by
  rw [← ho]; exact refs_any w kd AW AR nW cW nR cR rs h hR.1 hR.2
theorem marks_w {w : World} {AR : Option Addr} {nR cR N : Nat} {n : Int} {rs : List Rl} {o : List Int} (h : RlL w AR nR cR rs) (hN : (min (max n 0) 4096).toNat = N) (ho : fmL rs nR N = o) (hR : nR ≤ 1000000) :
    Calls Tryd.prog 13 #[.slice AR nR cR, .int .i64 n] w (IAns N o w) := by
  rw [← ho, ← hN]; exact marks_small w AR nR cR n rs h hR

set_option maxHeartbeats 4000000 in
set_option maxRecDepth 100000 in
theorem known15_any (w : World) (hT : Si.Txs w) : Calls Tryd.prog 7 #[] w (TAns w) := by
  obtain ⟨w4, hw4⟩ : ∃ w4, ((((w.alloc (.cells #[.int .i64 0, .int .i64 0] 2)).alloc (.cells #[.int .i64 1, .int .i64 0, .bool true] 51)).alloc (.cells #[.int .i64 1, .slice (some ⟨w.heap.size, 0, none⟩) 2 2, .slice (some ⟨w.heap.size + 1, 0, none⟩) 1 1] 25)).alloc (.cells #[.string ⟨#[102]⟩, .bool false, .int .i64 1, .int .i64 0, .int .i64 0] 53)) = w4 := ⟨_, rfl⟩
  have RI := Lib.hid (show IW w4 (.slice (some ⟨w.heap.size, 0, none⟩) 2 2) kW from by rw [← hw4]; exact IW.lit kW 2 ((((Blk.new w _ _).alloc _).alloc _).alloc _) rfl rfl (by decide))
  have RR := Lib.hid (show RlL w4 (some ⟨w.heap.size + 1, 0, none⟩) 1 1 kR from by
    rw [← hw4]
    have h9 := ((Blk.new (w.alloc (.cells #[.int .i64 0, .int .i64 0] 2)) 51 #[.int .i64 1, .int .i64 0, .bool true]).alloc (.cells #[.int .i64 1, .slice (some ⟨w.heap.size, 0, none⟩) 2 2, .slice (some ⟨w.heap.size + 1, 0, none⟩) 1 1] 25)).alloc (.cells #[.string ⟨#[102]⟩, .bool false, .int .i64 1, .int .i64 0, .int .i64 0] 53)
    exact wd_one _ (blk_at h9 (by simp)) fun j u hu => by simpa [encRl] using hu)
  have RK := Lib.hid (show BK w4 (w.heap.size + 1 + 1) (.int .i64 1) (.slice (some ⟨w.heap.size, 0, none⟩) 2 2) (.slice (some ⟨w.heap.size + 1, 0, none⟩) 1 1) from by
    rw [← hw4]
    have h9 := (Blk.new ((w.alloc (.cells #[.int .i64 0, .int .i64 0] 2)).alloc (.cells #[.int .i64 1, .int .i64 0, .bool true] 51)) 25 #[.int .i64 1, .slice (some ⟨w.heap.size, 0, none⟩) 2 2, .slice (some ⟨w.heap.size + 1, 0, none⟩) 1 1]).alloc (.cells #[.string ⟨#[102]⟩, .bool false, .int .i64 1, .int .i64 0, .int .i64 0] 53)
    exact blk_at h9 (by simp))
  have RS := Lib.hid (show SyL w4 (some ⟨w.heap.size + 1 + 1 + 1, 0, none⟩) 1 1 kS from by
    rw [← hw4]
    have h9 := Blk.new (((w.alloc (.cells #[.int .i64 0, .int .i64 0] 2)).alloc (.cells #[.int .i64 1, .int .i64 0, .bool true] 51)).alloc (.cells #[.int .i64 1, .slice (some ⟨w.heap.size, 0, none⟩) 2 2, .slice (some ⟨w.heap.size + 1, 0, none⟩) 1 1] 25)) 53 #[.string ⟨#[102]⟩, .bool false, .int .i64 1, .int .i64 0, .int .i64 0]
    exact wd_one _ (blk_at h9 (by simp)) fun j u hu => by simpa [encSy] using hu)
  obtain ⟨bs, hp, hn, hg⟩ := kspec
  have HPT := Lib.hid hp
  have HNW := Lib.hid hn
  have HGT := Lib.hid hg
  clear hp hn hg
  have hb4 : Below w.heap.size w w4 := by rw [← hw4]; exact to_ (to_ (to_ (alloc_ _ _) (alloc_ _ _)) (alloc_ _ _)) (alloc_ _ _)
  have RX := Lib.hid (TX.on hT hb4)
  have HA := Lib.hid hb4
  obtain ⟨c0, c1, c2⟩ := BK.cells RK.out
  clear hT hb4
  go_enter Tryd.func7, Tryd.ntmps7
  go_wp2_with fail
  refine (HPT.out _ _ _ _ _ RI.out RR.out).mono ?_
  rintro e w5 ⟨A5, c5, rfl, h5, b5⟩
  have Ry5 := Lib.hid ((show IW w5 (.slice none 0 0) [] from .nil))
  have Ri5 := Lib.hid (RI.out.on b5)
  have Rr5 := Lib.hid (RR.out.on b5)
  have Rs5 := Lib.hid (RS.out.on b5)
  have Rx5 := Lib.hid (RX.out.on b5)
  have Rk5 := Lib.hid (RK.out.on b5)
  have HB5 := Lib.hid (to_ HA.out b5)
  clear b5 RI RR RS RX RK HA
  have HY5 := Lib.hid h5
  clear h5 hw4 c0 c1 c2
  go_wp2_with fail
  refine (HNW.out w5 _ _ HY5.out).mono ?_
  rintro e w6 ⟨g, A6, c6, rfl, hg6, hr6, b6⟩
  have HG6 := Lib.hid hg6
  have HR6 := Lib.hid hr6
  have HB6 := Lib.hid b6
  clear hg6 hr6 b6
  go_wp2_with fail
  refine (HGT.out _ _ _ _ HR6.out).mono ?_
  rintro e w7 ⟨AW, cW, AR, cR, rfl, hi7, hr7, hg7⟩
  have b7 : Below w5.heap.size w5 w7 := HB6.out.grown hg7 HB6.out.size (fun r e => by injection e with e; have := HG6.out; omega)
  obtain ⟨w8, hw8⟩ : ∃ w8, w7.alloc (.cells #[.int .i64 1, .slice AW 2 cW, .slice AR 1 cR] 25) = w8 := ⟨_, rfl⟩
  have b8 : Below w7.heap.size w7 w8 := by rw [← hw8]; exact alloc_ _ _
  have b58 := to_ b7 b8
  have RI8 := Lib.hid (hi7.on b8)
  have RQ8 := Lib.hid (hr7.on b8)
  have RM8 := Lib.hid (show BK w8 w7.heap.size (.int .i64 1) (.slice AW 2 cW) (.slice AR 1 cR) from by rw [← hw8]; exact Blk.new w7 _ _)
  have Si8 := Lib.hid (Ri5.out.on b58)
  have Sr8 := Lib.hid (Rr5.out.on b58)
  have Ss8 := Lib.hid (Rs5.out.on b58)
  have Sx8 := Lib.hid (Rx5.out.on b58)
  have Sk8 := Lib.hid (Rk5.out.on b58)
  have HB8 := Lib.hid (to_ HB5.out b58)
  clear hi7 hr7 hg7 b7 b8 b58 HG6 HR6 HB6 HY5 HB5 Ri5 Rr5 Rs5 Rx5 Rk5 Ry5
  obtain ⟨c0, c1, c2⟩ := BK.cells Sk8.out
  obtain ⟨m0, m1, m2⟩ := BK.cells RM8.out
  go_wp2_with fail
  clear hw8
  refine (ck_w Sx8.out Si8.out Sr8.out Ss8.out kck1 rfl (by decide) (by decide)).mono ?_
  rintro e w9 ⟨rfl, b9⟩
  have Ri9 := Lib.hid (Si8.out.on b9)
  have Rr9 := Lib.hid (Sr8.out.on b9)
  have Rs9 := Lib.hid (Ss8.out.on b9)
  have Rx9 := Lib.hid (Sx8.out.on b9)
  have Rk9 := Lib.hid (Sk8.out.on b9)
  have Rj9 := Lib.hid (RI8.out.on b9)
  have Rq9 := Lib.hid (RQ8.out.on b9)
  have Rm9 := Lib.hid (RM8.out.on b9)
  have HB9 := Lib.hid (to_ HB8.out b9)
  clear b9 Si8 Sr8 Ss8 Sx8 Sk8 RI8 RQ8 RM8 HB8
  clear c0 c1 c2 m0 m1 m2
  obtain ⟨c0, c1, c2⟩ := BK.cells Rk9.out
  obtain ⟨m0, m1, m2⟩ := BK.cells Rm9.out
  go_wp2_with fail
  refine (ck_w Rx9.out Ri9.out Rr9.out Wd.nil kck2 rfl (by decide) (by decide)).mono ?_
  rintro e w10 ⟨rfl, b10⟩
  have Ri10 := Lib.hid (Ri9.out.on b10)
  have Rr10 := Lib.hid (Rr9.out.on b10)
  have Rs10 := Lib.hid (Rs9.out.on b10)
  have Rx10 := Lib.hid (Rx9.out.on b10)
  have Rk10 := Lib.hid (Rk9.out.on b10)
  have Rj10 := Lib.hid (Rj9.out.on b10)
  have Rq10 := Lib.hid (Rq9.out.on b10)
  have Rm10 := Lib.hid (Rm9.out.on b10)
  have HB10 := Lib.hid (to_ HB9.out b10)
  clear b10 Ri9 Rr9 Rs9 Rx9 Rk9 Rj9 Rq9 Rm9 HB9
  clear c0 c1 c2 m0 m1 m2
  obtain ⟨c0, c1, c2⟩ := BK.cells Rk10.out
  obtain ⟨m0, m1, m2⟩ := BK.cells Rm10.out
  go_wp2_with fail
  refine (ck_w (ws := []) (rs := []) (ss := []) Rx10.out .nil Wd.nil Wd.nil kck3 rfl (by decide) (by decide)).mono ?_
  rintro e w11 ⟨rfl, b11⟩
  have Ri11 := Lib.hid (Ri10.out.on b11)
  have Rr11 := Lib.hid (Rr10.out.on b11)
  have Rs11 := Lib.hid (Rs10.out.on b11)
  have Rx11 := Lib.hid (Rx10.out.on b11)
  have Rk11 := Lib.hid (Rk10.out.on b11)
  have Rj11 := Lib.hid (Rj10.out.on b11)
  have Rq11 := Lib.hid (Rq10.out.on b11)
  have Rm11 := Lib.hid (Rm10.out.on b11)
  have HB11 := Lib.hid (to_ HB10.out b11)
  clear b11 Ri10 Rr10 Rs10 Rx10 Rk10 Rj10 Rq10 Rm10 HB10
  clear c0 c1 c2 m0 m1 m2
  obtain ⟨c0, c1, c2⟩ := BK.cells Rk11.out
  obtain ⟨m0, m1, m2⟩ := BK.cells Rm11.out
  go_wp2_with fail
  refine (same_same _ 1 _ _ _ _ 2 _ _ 1 _ _ kW kR Rj11.out Ri11.out rfl (by decide) Rq11.out Rr11.out (by decide)).mono ?_
  rintro e w12 ⟨rfl, b12⟩
  have Ri12 := Lib.hid (Ri11.out.on b12)
  have Rr12 := Lib.hid (Rr11.out.on b12)
  have Rs12 := Lib.hid (Rs11.out.on b12)
  have Rx12 := Lib.hid (Rx11.out.on b12)
  have Rk12 := Lib.hid (Rk11.out.on b12)
  have Rj12 := Lib.hid (Rj11.out.on b12)
  have Rq12 := Lib.hid (Rq11.out.on b12)
  have Rm12 := Lib.hid (Rm11.out.on b12)
  have HB12 := Lib.hid (to_ HB11.out b12)
  clear b12 Ri11 Rr11 Rs11 Rx11 Rk11 Rj11 Rq11 Rm11 HB11
  clear c0 c1 c2 m0 m1 m2
  obtain ⟨c0, c1, c2⟩ := BK.cells Rk12.out
  obtain ⟨m0, m1, m2⟩ := BK.cells Rm12.out
  go_wp2_with fail
  refine (HPT.out _ _ _ _ _ Ri12.out Rr12.out).mono ?_
  rintro e w13 ⟨A13, c13, rfl, h13, b13⟩
  have Ri13 := Lib.hid (Ri12.out.on b13)
  have Rr13 := Lib.hid (Rr12.out.on b13)
  have Rs13 := Lib.hid (Rs12.out.on b13)
  have Rx13 := Lib.hid (Rx12.out.on b13)
  have Rk13 := Lib.hid (Rk12.out.on b13)
  have Rj13 := Lib.hid (Rj12.out.on b13)
  have Rq13 := Lib.hid (Rq12.out.on b13)
  have Rm13 := Lib.hid (Rm12.out.on b13)
  have HB13 := Lib.hid (to_ HB12.out b13)
  clear b13 Ri12 Rr12 Rs12 Rx12 Rk12 Rj12 Rq12 Rm12 HB12
  clear h13
  clear c0 c1 c2 m0 m1 m2
  obtain ⟨c0, c1, c2⟩ := BK.cells Rk13.out
  obtain ⟨m0, m1, m2⟩ := BK.cells Rm13.out
  go_wp2_with fail
  refine (refs_w Rr13.out krf (by decide)).mono ?_
  rintro e w14 ⟨A14, c14, rfl, h14, b14⟩
  have Ra14 := Lib.hid (h14)
  have Ri14 := Lib.hid (Ri13.out.on b14)
  have Rr14 := Lib.hid (Rr13.out.on b14)
  have Rs14 := Lib.hid (Rs13.out.on b14)
  have Rx14 := Lib.hid (Rx13.out.on b14)
  have Rk14 := Lib.hid (Rk13.out.on b14)
  have Rj14 := Lib.hid (Rj13.out.on b14)
  have Rq14 := Lib.hid (Rq13.out.on b14)
  have Rm14 := Lib.hid (Rm13.out.on b14)
  have HB14 := Lib.hid (to_ HB13.out b14)
  clear b14 h14 Ri13 Rr13 Rs13 Rx13 Rk13 Rj13 Rq13 Rm13 HB13
  clear c0 c1 c2 m0 m1 m2
  obtain ⟨c0, c1, c2⟩ := BK.cells Rk14.out
  obtain ⟨m0, m1, m2⟩ := BK.cells Rm14.out
  go_wp2_with fail
  refine (cmp_w Ra14.out).mono ?_
  rintro e w15 ⟨rfl, b15⟩
  have Ri15 := Lib.hid ((Ri14.out.on (alloc_ _ _)).on b15)
  have Rr15 := Lib.hid ((Rr14.out.on (alloc_ _ _)).on b15)
  have Rs15 := Lib.hid ((Rs14.out.on (alloc_ _ _)).on b15)
  have Rx15 := Lib.hid ((Rx14.out.on (alloc_ _ _)).on b15)
  have Rk15 := Lib.hid ((Rk14.out.on (alloc_ _ _)).on b15)
  have Rj15 := Lib.hid ((Rj14.out.on (alloc_ _ _)).on b15)
  have Rq15 := Lib.hid ((Rq14.out.on (alloc_ _ _)).on b15)
  have Rm15 := Lib.hid ((Rm14.out.on (alloc_ _ _)).on b15)
  have HB15 := Lib.hid (to_ (to_ HB14.out (alloc_ _ _)) b15)
  clear b15 Ra14 Ri14 Rr14 Rs14 Rx14 Rk14 Rj14 Rq14 Rm14 HB14
  clear c0 c1 c2 m0 m1 m2
  obtain ⟨c0, c1, c2⟩ := BK.cells Rk15.out
  obtain ⟨m0, m1, m2⟩ := BK.cells Rm15.out
  go_wp2_with fail
  refine (marks_w (n := 2) (N := 2) Rr15.out (by decide) kfm (by decide)).mono ?_
  rintro e w16 ⟨A16, c16, rfl, h16, b16⟩
  have Ra16 := Lib.hid (h16)
  have Ri16 := Lib.hid (Ri15.out.on b16)
  have Rr16 := Lib.hid (Rr15.out.on b16)
  have Rs16 := Lib.hid (Rs15.out.on b16)
  have Rx16 := Lib.hid (Rx15.out.on b16)
  have Rk16 := Lib.hid (Rk15.out.on b16)
  have Rj16 := Lib.hid (Rj15.out.on b16)
  have Rq16 := Lib.hid (Rq15.out.on b16)
  have Rm16 := Lib.hid (Rm15.out.on b16)
  have HB16 := Lib.hid (to_ HB15.out b16)
  clear b16 h16 Ri15 Rr15 Rs15 Rx15 Rk15 Rj15 Rq15 Rm15 HB15
  clear c0 c1 c2 m0 m1 m2
  obtain ⟨c0, c1, c2⟩ := BK.cells Rk16.out
  obtain ⟨m0, m1, m2⟩ := BK.cells Rm16.out
  go_wp2_with fail
  refine (cmp_w Ra16.out).mono ?_
  rintro e w17 ⟨rfl, b17⟩
  have Ri17 := Lib.hid ((Ri16.out.on (alloc_ _ _)).on b17)
  have Rr17 := Lib.hid ((Rr16.out.on (alloc_ _ _)).on b17)
  have Rs17 := Lib.hid ((Rs16.out.on (alloc_ _ _)).on b17)
  have Rx17 := Lib.hid ((Rx16.out.on (alloc_ _ _)).on b17)
  have Rk17 := Lib.hid ((Rk16.out.on (alloc_ _ _)).on b17)
  have Rj17 := Lib.hid ((Rj16.out.on (alloc_ _ _)).on b17)
  have Rq17 := Lib.hid ((Rq16.out.on (alloc_ _ _)).on b17)
  have Rm17 := Lib.hid ((Rm16.out.on (alloc_ _ _)).on b17)
  have HB17 := Lib.hid (to_ (to_ HB16.out (alloc_ _ _)) b17)
  clear b17 Ra16 Ri16 Rr16 Rs16 Rx16 Rk16 Rj16 Rq16 Rm16 HB16
  clear c0 c1 c2 m0 m1 m2
  obtain ⟨c0, c1, c2⟩ := BK.cells Rk17.out
  obtain ⟨m0, m1, m2⟩ := BK.cells Rm17.out
  go_wp2_with fail
  go_ret
  exact ⟨rfl, HB17.out⟩
end Go.Proofs.YthkbdclnnpcoiaaDoor.By
