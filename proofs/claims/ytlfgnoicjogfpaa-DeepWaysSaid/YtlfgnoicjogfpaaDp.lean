/-
  WALK of layer 12: Worst.
-/
import Derived.Test.YtlfgnoicjogfpaaDo
import Derived.Deep.LoopGhost
namespace Go.Proofs.Ytlfgnoicjogfpaa.By
open Go.RowKit
open Mem Gm Rf Dp
set_option linter.unusedSimpArgs false

/-- How far from the end of the order a place stands; 0: nowhere. -/
def rk (l : List Nat) (a : Nat) : Nat := if l.contains a = true then l.length - l.idxOf a else 0
theorem rk_le (l : List Nat) (a : Nat) : rk l a ≤ l.length := by unfold rk; split <;> omega
theorem rk_pos {l : List Nat} {a : Nat} (h : a ∈ l) : 1 ≤ rk l a := by
  unfold rk
  rw [if_pos (List.contains_iff_mem.2 h)]
  have := List.idxOf_lt_length_of_mem h
  omega
theorem rk_less {g : List (List Int)} {ins : List Bool} {l : List Nat} (ho : Ordered g.length (RM g ins) (memV ins) l) {a e : Nat} (ha : a ∈ l) (he : E g a e = true) : rk l e < rk l a := by
  have h1 := rk_pos ha
  by_cases hel : e ∈ l
  · have hR : RM g ins a e = true := by
      unfold RM
      rw [he, ((ho.mem a).1 ha).2, ((ho.mem e).1 hel).2]; rfl
    have := ho.less ha hel hR
    unfold rk
    rw [if_pos (List.contains_iff_mem.2 ha), if_pos (List.contains_iff_mem.2 hel)]
    have := List.idxOf_lt_length_of_mem hel
    omega
  · have : rk l e = 0 := by
      unfold rk
      rw [if_neg (fun h => hel (List.contains_iff_mem.1 h))]
    omega

/-- The way that is told, from a place on. -/
def worL (g : List (List Int)) (ins : List Bool) (d : Nat → Int) (f a : Nat) : List Nat := wayL (memV ins) (adjC g) d f a
def worI (g : List (List Int)) (ins : List Bool) (own : List Int) (rest step at_ : Int) : List Int := match ordV g ins with
  | none => []
  | some l => if 0 ≤ at_ ∧ at_ < (g.length : Int) then coI (at_.toNat :: worL g ins (fun p => el (depL g ins own rest step l) p) l.length at_.toNat) else []
theorem worL_few {g : List (List Int)} {ins : List Bool} {d : Nat → Int} : ∀ (f a : Nat), (worL g ins d f a).length ≤ f
  | 0, _ => Nat.le_refl _
  | f + 1, a => by
    show (if memV ins a = true then _ else _ : List Nat).length ≤ _
    split
    · cases bestO d (adjC g a) with
      | none => exact Nat.zero_le _
      | some e => show (worL g ins d f e).length + 1 ≤ f + 1; have := worL_few (g := g) (ins := ins) (d := d) f e; omega
    · exact Nat.zero_le _

theorem own_one {w : World} {v : Int} {base : Nat} (hb : base ≤ w.heap.size) : (w.alloc (.cells #[.int .i64 v] 3)).ownsRow base 3 1 (.slice (some ⟨w.heap.size, 0, none⟩) 1 1) 1 (ints [v]) := by
  refine ⟨rfl, .inr ⟨w.heap.size, 1, #[.int .i64 v], rfl, hb, Blk.new w 3 _, by omega, by unfold maxLen; omega, by simp, by simp [ints]⟩⟩

theorem depths_w (w : World) (A A2 A3 : Option Addr) (c c2 c3 N M K L : Nat) (g : List (List Int)) (ins : List Bool) (own : List Int) (rest step : Int) (hN : g.length = N) (hM : ins.length = M) (hK : own.length = K) (hL : ((depV g ins own rest step).getD []).length = L) (h : GW w (.slice A N c) g) (hI : LW w (.slice A2 M c2) ins) (hO : IW w (.slice A3 K c3) own) (hs : Fits g 24 30) :
    Calls Try.prog 27 #[.slice A N c, .slice A2 M c2, .slice A3 K c3, .int .i64 rest, .int .i64 step] w (OAns L ((depV g ins own rest step).getD []) (depV g ins own rest step).isSome w) := by
  subst hL
  exact depths_any w A A2 A3 c c2 c3 N M K g ins own rest step hN hM hK h hI hO hs

set_option maxRecDepth 100000 in
set_option maxHeartbeats 8000000 in
theorem worst_any (w : World) (A A2 A3 : Option Addr) (c c2 c3 N M K L : Nat) (g : List (List Int)) (ins : List Bool) (own : List Int) (rest step at_ : Int) (hN : g.length = N) (hM : ins.length = M) (hK : own.length = K) (hL : (worI g ins own rest step at_).length = L) (h : GW w (.slice A N c) g) (hI : LW w (.slice A2 M c2) ins) (hO : IW w (.slice A3 K c3) own) (hs : Fits g 24 30) :
    Calls Try.prog 29 #[.slice A N c, .slice A2 M c2, .slice A3 K c3, .int .i64 rest, .int .i64 step, .int .i64 at_] w (IAns L (worI g ins own rest step at_) w) := by
  obtain ⟨i0, hi, hz0, hz1, hz2⟩ := info_parts infoI
  subst hL
  have HN := Lib.hid hN
  have HM := Lib.hid hM
  have HG := Lib.hid h
  have HI := Lib.hid hI
  have HS := Lib.hid hs
  have hN24 : N ≤ 24 := hN ▸ hs.1
  have HDP := Lib.hid (depths_any w A A2 A3 c c2 c3 N M K g ins own rest step hN hM hK h hI hO hs)
  unfold worI depV at *
  obtain ⟨r, hr⟩ : ∃ r, ordV g ins = r := ⟨_, rfl⟩
  rw [hr] at HDP ⊢
  rw [hN]
  have HR := Lib.hid hr
  clear hM hK h hI hO hs hr hN
  cases r with
  | none =>
    go_enter Try.func29, Try.ntmps29
    go_wp2_with fail
    refine HDP.out.mono ?_
    rintro e w1 ⟨A5, c5, rfl, -, b1⟩
    have HB1 := Lib.hid b1
    clear b1 HDP
    dsimp only [Option.map_none, Option.getD_none, Option.isSome_none, List.length_nil]
    go_wp2
    go_ret
    exact ⟨none, 0, rfl, .nil, HB1.out⟩
  | some l =>
    have HORD := Lib.hid (ordV_some HR.out)
    have hdl : (depL g ins own rest step l).length = N := by unfold depL; rw [List.length_map, List.length_range]; exact HN.out
    have hd0 : ∀ j, j < N → 0 ≤ el (depL g ins own rest step l) j ∧ el (depL g ins own rest step l) j ≤ cap := fun j hj => by
      unfold depL
      rw [el_range (by rw [HN.out]; exact hj)]
      exact dep_ok _ _ _ _ _ _ _
    have HDL := Lib.hid hdl
    simp only [Option.map_some, Option.getD_some, Option.isSome_some] at HDP
    rw [hdl] at HDP
    dsimp only
    generalize depL g ins own rest step l = D at HDP HDL hd0 ⊢
    clear hdl hd0
    by_cases hin : 0 ≤ at_ ∧ at_ < (N : Int)
    · obtain ⟨a, rfl⟩ : ∃ a : Nat, at_ = (a : Int) := ⟨at_.toNat, by omega⟩
      have haN : a < N := by omega
      rw [if_pos hin, Int.toNat_natCast]
      obtain ⟨ll, hll⟩ : ∃ ll, l.length = ll := ⟨_, rfl⟩
      have HLL := Lib.hid hll
      have hll24 : ll ≤ 24 := by rw [← hll]; exact Nat.le_trans (nodup_len _ _ HORD.out.nodup fun p hp => ((HORD.out.mem p).1 hp).1) (by rw [HN.out]; exact hN24)
      rw [hll]
      clear hll
      have ha1 : ¬ (a : Int) < 0 := by omega
      have ha2 : ¬ (N : Int) ≤ (a : Int) := by omega
      clear hin
      go_enter Try.func29, Try.ntmps29
      go_wp2_with fail
      refine HDP.out.mono ?_
      rintro e w1 ⟨A5, c5, rfl, h1, b1⟩
      have HD1 := Lib.hid h1
      have HB1 := Lib.hid b1
      have HCL := Lib.hid (by
        have := clean_any A c w1.heap.size g w1 (by rw [HN.out]; exact HG.out.on b1) (Nat.le_refl _) HS.out.small
        rw [HN.out] at this; exact this)
      clear h1 b1 HDP
      go_wp2_with fail
      refine HCL.out.mono ?_
      rintro e w2 ⟨A6, c6, rfl, h2, b2, -⟩
      have HG2 := Lib.hid h2
      have HD2 := Lib.hid (HD1.out.on b2)
      have HB2 := Lib.hid (to_ HB1.out b2)
      have HI2 := Lib.hid (HI.out.on HB2.out)
      clear h2 b2 HCL HD1 HB1
      go_wp2_with fail
      go_loopg [5, 16] ll (fun f av wv wr => ∃ (p : Nat) (done : List Nat), p < N ∧ av = .int .i64 (p : Int) ∧ rk l p ≤ f ∧ (a :: worL g ins (fun p => el D p) ll a) = done ++ worL g ins (fun p => el D p) f p ∧ done.length + f ≤ 25 ∧ wr.ownsRow w2.heap.size 3 1 wv (coI done).length (ints (coI done)) ∧ Below w2.heap.size w2 wr)
      case atStart => exact ⟨a, [a], haN, rfl, by rw [← HLL.out]; exact rk_le l a, rfl, by simp; omega, own_one (Nat.le_refl _), alloc_ w2 _⟩
      case round =>
        obtain ⟨p, done, hpN, rfl, hrk, hall, hfew, hown, hB⟩ := hrel
        have HMEM := Lib.hid (isMem_any wr A2 c2 M p ins HM.out (HI2.out.on hB))
        obtain ⟨b, hb⟩ : ∃ b, memV ins p = b := ⟨_, rfl⟩
        rw [hb] at HMEM
        have hgr := HG2.out.below hB
        have hg2 : Gr wr w2.heap.size (.slice A6 (clean g).length c6) (clean g) := by rw [clean_length, HN.out]; exact hgr
        obtain ⟨ad, c9, hAe, _, _, hbad, hrows⟩ := hg2.rows (by rw [clean_length, HN.out]; omega)
        injection hAe with hA3 _ hC9
        obtain ⟨A', c', hrw, hrsl⟩ := hrows p (by rw [clean_length, HN.out]; exact hpN)
        rw [clean_rowC (by rw [HN.out]; exact hpN)] at hrw hrsl
        subst hA3 hC9
        have hie : IW wr (.slice A' (coI (adjC g p)).length c') (coI (adjC g p)) := SlV.more hrsl hB.size
        have hml : (coI (adjC g p)).length = (adjC g p).length := by simp [coI]
        rw [hml] at hrw hie
        obtain ⟨m, hm⟩ : ∃ m, (adjC g p).length = m := ⟨_, rfl⟩
        rw [hm] at hrw hie
        have hpI : (p : Int) < (N : Int) := by omega
        have hp0 : (0 : Int) ≤ (p : Int) := by omega
        clear hgr hg2 hrows hrsl hbad hml
        cases b with
        | false =>
          have hstop : worL g ins (fun p => el D p) gk p = [] := by
            cases gk with
            | zero => rfl
            | succ f => show (if memV ins p = true then _ else _ : List Nat) = []; rw [if_neg (by rw [hb]; simp)]
          clear hb hie hm hrk hfew
          have hdone : (a :: worL g ins (fun p => el D p) ll a) = done := by rw [hall, hstop, List.append_nil]
          have HSL := Lib.hid (SlV.of_own hown)
          obtain ⟨OA, OC, hov⟩ := (SlV.of_own hown).form
          have hnl : (ints (coI done)).length = (coI done).length := by simp [ints]
          rw [hnl] at hov
          subst hov
          have HBB := Lib.hid (to_ HB2.out hB)
          obtain ⟨cl, hcl⟩ : ∃ cl, (coI done).length = cl := ⟨_, rfl⟩
          have HCL := Lib.hid hcl
          rw [hcl] at HSL ⊢
          have HDO := Lib.hid hdone
          clear hown hB hall hstop hnl hcl hdone
          go_wp2_with (go_at_call 75; refine HMEM.out.mono ?_; rintro e w9 ⟨rfl, rfl⟩)
          go_ret
          refine ⟨OA, OC, ?_, ?_, HBB.out⟩
          · rw [HDO.out, HCL.out]; rfl
          · show IW _ (.slice OA (coI (a :: worL g ins (fun p => el D p) ll a)).length OC) (coI (a :: worL g ins (fun p => el D p) ll a))
            rw [HDO.out, HCL.out]; exact HSL.out
        | true =>
          have hpl : p ∈ l := (HORD.out.mem p).2 ⟨by rw [HN.out]; exact hpN, hb⟩
          have h1 := rk_pos hpl
          obtain ⟨f, rfl⟩ : ∃ f, gk = f + 1 := ⟨gk - 1, by omega⟩
          have hun : worL g ins (fun p => el D p) (f + 1) p = match bestO (fun p => el D p) (adjC g p) with | none => [] | some e => e :: worL g ins (fun p => el D p) f e := by
            show (if memV ins p = true then _ else _ : List Nat) = _
            rw [if_pos hb]; rfl
          cases hbo : bestO (fun p => el D p) (adjC g p) with
          | none =>
            have he := bestO_none.1 hbo
            have hm0 : m = 0 := by rw [← hm, he]; rfl
            subst hm0
            have hstop : worL g ins (fun p => el D p) (f + 1) p = [] := by rw [hun, hbo]
            clear hb hie hm hrk hfew hpl h1 hun hbo he
            have hdone : (a :: worL g ins (fun p => el D p) ll a) = done := by rw [hall, hstop, List.append_nil]
            have HSL := Lib.hid (SlV.of_own hown)
            obtain ⟨OA, OC, hov⟩ := (SlV.of_own hown).form
            have hnl : (ints (coI done)).length = (coI done).length := by simp [ints]
            rw [hnl] at hov
            subst hov
            have HBB := Lib.hid (to_ HB2.out hB)
            obtain ⟨cl, hcl⟩ : ∃ cl, (coI done).length = cl := ⟨_, rfl⟩
            have HCL := Lib.hid hcl
            rw [hcl] at HSL ⊢
            have HDO := Lib.hid hdone
            clear hown hB hall hstop hnl hcl hdone
            go_wp2_with (go_at_call 75; refine HMEM.out.mono ?_; rintro e w9 ⟨rfl, rfl⟩)
            go_ret
            refine ⟨OA, OC, ?_, ?_, HBB.out⟩
            · rw [HDO.out, HCL.out]; rfl
            · show IW _ (.slice OA (coI (a :: worL g ins (fun p => el D p) ll a)).length OC) (coI (a :: worL g ins (fun p => el D p) ll a))
              rw [HDO.out, HCL.out]; exact HSL.out
          | some e =>
            have hmem := (bestO_mem hbo).1
            have hE := adjC_mem.1 hmem
            have heN : e < N := by have := (E_iff.1 hE).2.1; rw [HN.out] at this; exact this
            have hrl := rk_less HORD.out hpl hE
            have hmp : 0 < m := by rw [← hm]; exact List.length_pos_of_mem hmem
            have hmI : (0 : Int) < (m : Int) := by omega
            have hm24 : m ≤ 1000000 := by rw [← hm]; exact Nat.le_trans (List.length_filter_le _ _) (by rw [List.length_range, HN.out]; omega)
            have HDE := Lib.hid (dearest_any wr A' A5 c' c5 m N (adjC g p) D hm HDL.out hie (HD2.out.on hB) (fun x hx => by have := (E_iff.1 (adjC_mem.1 hx)).2.1; rw [HN.out] at this; exact this) e hbo hm24)
            have HALL := Lib.hid (show (a :: worL g ins (fun p => el D p) ll a) = (done ++ [e]) ++ worL g ins (fun p => el D p) f e from by rw [hall, hun, hbo, List.append_assoc]; rfl)
            have HRK := Lib.hid (show rk l e ≤ f by omega)
            have HFEW := Lib.hid (show (done ++ [e]).length + f ≤ 25 by simp; omega)
            have HEN := Lib.hid heN
            have HOWN := Lib.hid hown
            have HBB := Lib.hid hB
            have HLO := Lib.hid hown.lt
            have HDL2 := Lib.hid (show (coI done).length ≤ 25 by simp only [coI, List.length_map]; omega)
            clear hb hie hm hrk hall hfew hpl h1 hun hbo hmem hE heN hrl hmp hown hB
            go_wp2_with (first
              | (go_at_call 75; refine HMEM.out.mono ?_; rintro e w9 ⟨rfl, rfl⟩)
              | (go_at_call 76; refine HDE.out.mono ?_; rintro e w9 ⟨rfl, q, rfl⟩)
              | (at_builtin; refine wpList_append_where _ rfl (.tmp 59) (.tmp 61) 26 rfl w2.heap.size 3 i0 (.int .i64 0) 8 Try.underlying26 hi hz0 hz1 hz2 rfl u16 (coI done).length (ints (coI done)) rfl (own_keep (w' := (wr.drewN q).alloc (.cells #[.int .i64 (e : Int)] 3)) HOWN.out fun q9 _ hq _ => Below.heap_alloc (wr.drewN q) _ _ hq) ⟨wr.heap.size, 0, none⟩ 1 (.int .i64 (e : Int)) rfl (((Blk.new (wr.drewN q) 3 #[.int .i64 (e : Int)]).cell 0).trans rfl) rfl (by have := HDL2.out; unfold maxLen; omega) (by have := HDL2.out; omega) (by rw [World.size_alloc]; exact Nat.le_trans HBB.out.size (Nat.le_succ _)) ?_; intro v' w' h2 h3 h4; clear h4; have H2 := Lib.hid h2; have H3 := Lib.hid h3; clear h2 h3))
            have h2 : w'.ownsRow w2.heap.size 3 1 v' (coI (done ++ [e])).length (ints (coI (done ++ [e]))) := by
              have e1 : coI (done ++ [e]) = coI done ++ [(e : Int)] := by simp [coI]
              rw [e1, List.length_append, List.length_singleton]
              have := H2.out
              simpa [ints] using this
            have h3 : Below w2.heap.size w2 w' := ((below_drewN HBB.out q).alloc HBB.out.size _).grown H3.out (by rw [World.size_alloc]; exact Nat.le_trans HBB.out.size (Nat.le_succ _)) fun r e => (HLO.out r e).1
            go_roundg f
            case measure => omega
            case rel => exact ⟨e, done ++ [e], HEN.out, rfl, HRK.out, HALL.out, HFEW.out, h2, h3⟩
    · rw [if_neg hin]
      go_enter Try.func29, Try.ntmps29
      go_wp2_with fail
      refine HDP.out.mono ?_
      rintro e w1 ⟨A5, c5, rfl, -, b1⟩
      have HB1 := Lib.hid b1
      clear b1 HDP
      by_cases h0 : at_ < 0
      · clear hin
        go_wp2
        go_ret
        exact ⟨none, 0, rfl, .nil, HB1.out⟩
      · have h1 : (N : Int) ≤ at_ := by omega
        clear hin
        go_wp2
        go_ret
        exact ⟨none, 0, rfl, .nil, HB1.out⟩
end Go.Proofs.Ytlfgnoicjogfpaa.By
