/-
  A MAP OF NAMES TO PLACES: how it reads, what a look into it and a store give. WALK of layer 23: firsts.
-/
import Derived.Test.YtmabenffdpipmaaSe
import Derived.Test.YtmabenffdpipmaaSf
import Derived.Maps.OwnSet
namespace Go.Proofs.Ytmabenffdpipmaa.By
open Go.RowKit Go.Maps Go.WideMaps
open Mem Rf
attribute [local go_sem] Oper.semAt_some

def kl (s : ByteArray) : Lit := .string s.data.toList
theorem kl_inj {a b : ByteArray} (h : kl a = kl b) : a = b := by
  unfold kl at h
  injection h with h
  cases a; cases b
  simp only at h
  rw [ByteArray.mk.injEq]
  exact Array.toList_inj.1 h
def plD (a b : Int) : DataW Unit := .agg [.lit (.int .i64 a), .lit (.int .i64 b)]
def plR : Value → Option (DataW Unit × List MemPlace)
  | .agg xs => match xs.toList with
    | [.int .i64 a, .int .i64 b] => some (plD a b, [])
    | _ => none
  | _ => none
theorem plR_mk (a b : Int) : plR (.agg #[.int .i64 a, .int .i64 b]) = some (plD a b, []) := rfl
theorem plR_inv {v : Value} {a b : Int} {ps : List MemPlace} (h : plR v = some (plD a b, ps)) : v = .agg #[.int .i64 a, .int .i64 b] := by
  unfold plR at h
  split at h
  · rename_i xs
    split at h
    · rename_i a' b' hx
      injection h with h
      injection h with h _
      unfold plD at h
      injection h with h
      injection h with h1 h2
      injection h2 with h2 _
      injection h1 with h1
      injection h1 with _ h1
      injection h2 with h2
      injection h2 with _ h2
      subst h1 h2
      congr 1
      exact Array.toList_inj.1 hx
    · cases h
  · cases h

def gP (o : Option Pl) : Pl := o.getD (0, 0)
/-- Block m is a map of at most k names; of each name it has the place that f says. -/
def Mp (w : World) (m k : Nat) (f : ByteArray → Option Pl) : Prop :=
  ∃ D, w.ownsMap Try.prog 9 plR m k D ∧ ∀ nm : ByteArray, nm.size ≤ maxLen → Maps.has D (kl nm) = (f nm).isSome ∧ D.atKey (kl nm) (plD 0 0) = plD (gP (f nm)).1 (gP (f nm)).2

theorem law9 : Keyed Try.prog 9 := string_keyed Try.underlying9
theorem zeroP (w : World) : (zeroValue 46).run Try.prog w = .ok (.agg #[.int .i64 0, .int .i64 0]) w := by kernel_rfl

section
variable {w w' : World} {m k : Nat} {f : ByteArray → Option Pl}
theorem Mp.lt (h : Mp w m k f) : m < w.heap.size := h.elim fun _ h => h.1.lt
theorem Mp.kept {row : Option Nat} (h : Mp w m k f) (hg : w.grownBy w' row) (hne : some m ≠ row) : Mp w' m k f := by
  obtain ⟨D, h1, h2⟩ := h
  exact ⟨D, h1.kept hg hne, h2⟩
theorem Mp.block (h : Mp w m k f) (hb : w'.heap[m]? = w.heap[m]?) : Mp w' m k f := by
  obtain ⟨D, ⟨es, clock, hb1, F, hs, hD⟩, h2⟩ := h
  exact ⟨D, ⟨es, clock, hb.trans hb1, F, hs, hD⟩, h2⟩
theorem Mp.below {B : Nat} (h : Mp w m k f) (hb : Below B w w') (hm : m < B) : Mp w' m k f := h.block (hb.block m hm)
theorem Mp.look (h : Mp w m k f) {nm : ByteArray} (hn : nm.size ≤ maxLen) : (Instr.lookup 48 (.map (some m)) (.string nm) true).run Try.prog w = .ok (.tuple #[plV (gP (f nm)), .bool (f nm).isSome]) w := by
  obtain ⟨D, h1, h2⟩ := h
  obtain ⟨v, ps, hrun, hv⟩ := h1.look_ok law9 Try.underlying48 (zeroP w) (plR_mk 0 0) (keyOf_string_mk Try.underlying9 hn)
  obtain ⟨a, b⟩ := h2 nm hn
  unfold kl at a b
  rw [b] at hv
  rw [hrun, plR_inv hv, a]
  rfl
theorem Mp.look1 (h : Mp w m k f) {nm : ByteArray} (hn : nm.size ≤ maxLen) : (Instr.lookup 48 (.map (some m)) (.string nm) false).run Try.prog w = .ok (plV (gP (f nm))) w := by
  obtain ⟨D, h1, h2⟩ := h
  obtain ⟨v, ps, hrun, hv⟩ := h1.lookup law9 Try.underlying48 (zeroP w) (plR_mk 0 0) (keyOf_string_mk Try.underlying9 hn)
  obtain ⟨a, b⟩ := h2 nm hn
  unfold kl at b
  rw [b] at hv
  rw [hrun, plR_inv hv]
  rfl
theorem Mp.put (h : Mp w m k f) (hk : k < maxLen) {nm : ByteArray} (hn : nm.size ≤ maxLen) (p : Pl) {g : ByteArray → Option Pl} (hg : ∀ x, g x = if nm = x then some p else f x) :
    ∃ w', (Instr.mapUpdate 48 (.map (some m)) (.string nm) (plV p)).run Try.prog w = .ok () w' ∧ Mp w' m (k + 1) g ∧ w.mapTurned w' m := by
  obtain ⟨D, h1, h2⟩ := h
  obtain ⟨w', hrun, h3, h4⟩ := h1.store law9 Try.underlying48 hk (keyOf_string_mk Try.underlying9 hn) (plR_mk p.1 p.2)
  refine ⟨w', hrun, ⟨_, h3, fun x hx => ?_⟩, h4⟩
  have hkey : WideAt.IsKeyLit (Lit.string nm.data.toList) := trivial
  rw [hg]
  by_cases e : nm = x
  · subst e
    rw [if_pos rfl]
    exact ⟨has_put_same h1.isMap hkey _, atKey_put_same h1.isMap hkey _ _⟩
  · rw [if_neg e]
    have hne : kl x ≠ Lit.string nm.data.toList := fun h => e (kl_inj h.symm)
    exact ⟨(has_put_other hne _).trans (h2 x hx).1, (atKey_put_other hne _ _).trans (h2 x hx).2⟩
theorem Mp.mono (h : Mp w m k f) {k' : Nat} (hk : k ≤ k') {g : ByteArray → Option Pl} (hg : g = f) : Mp w m k' g := by
  subst hg
  obtain ⟨D, h1, h2⟩ := h
  exact ⟨D, h1.mono hk, h2⟩
theorem Mp.made (w : World) : Mp (w.alloc (.map #[] 0)) w.heap.size 0 (firstOf []) :=
  ⟨_, World.ownsMap_made w Try.prog 9 plR, fun _ _ => ⟨rfl, rfl⟩⟩
end

theorem first_had {pre : List Gs} {x : Gs} {p : Pl} (h : firstOf pre x.2.1 = some p) : firstOf (pre ++ [x]) = firstOf pre := by
  funext z
  rw [firstOf_snoc]
  cases hz : firstOf pre z with
  | some q => rfl
  | none =>
    by_cases e : x.2.1 = z
    · subst e; rw [h] at hz; cases hz
    · simp [e]
theorem first_new {pre : List Gs} {x : Gs} (h : firstOf pre x.2.1 = none) (z : ByteArray) : firstOf (pre ++ [x]) z = if x.2.1 = z then some x.1 else firstOf pre z := by
  rw [firstOf_snoc]
  by_cases e : x.2.1 = z
  · subst e; rw [h]
  · cases hz : firstOf pre z <;> simp [e]

/-- What a round's own cells hold. -/
theorem two_cells {V0 X : World} {a b : Nat} {y0 : ByteArray} {y1 : Bool} {y2 y3 y4 : Int} (hcl : ∀ p, X.cell? p = ((V0.alloc (.cells #[.int .i64 (a : Int), .int .i64 (b : Int)] 46)).alloc (.cells #[.string y0, .bool y1, .int .i64 y2, .int .i64 y3, .int .i64 y4] 42)).cell? p) :
    X.cell? ⟨V0.heap.size, 0, none⟩ = some (.int .i64 (a : Int)) ∧ X.cell? ⟨V0.heap.size, 1, none⟩ = some (.int .i64 (b : Int)) ∧ X.cell? ⟨V0.heap.size + 1, 0, none⟩ = some (.string y0) ∧ X.cell? ⟨V0.heap.size + 1, 1, none⟩ = some (.bool y1) ∧ X.cell? ⟨V0.heap.size + 1, 2, none⟩ = some (.int .i64 y2) ∧ X.cell? ⟨V0.heap.size + 1, 3, none⟩ = some (.int .i64 y3) ∧ X.cell? ⟨V0.heap.size + 1, 4, none⟩ = some (.int .i64 y4) := by
  have hb1 : Blk ((V0.alloc (.cells #[.int .i64 (a : Int), .int .i64 (b : Int)] 46)).alloc (.cells #[.string y0, .bool y1, .int .i64 y2, .int .i64 y3, .int .i64 y4] 42)) V0.heap.size 46 #[.int .i64 (a : Int), .int .i64 (b : Int)] := (Blk.new V0 _ _).alloc _
  have hb2 : Blk ((V0.alloc (.cells #[.int .i64 (a : Int), .int .i64 (b : Int)] 46)).alloc (.cells #[.string y0, .bool y1, .int .i64 y2, .int .i64 y3, .int .i64 y4] 42)) (V0.heap.size + 1) 42 #[.string y0, .bool y1, .int .i64 y2, .int .i64 y3, .int .i64 y4] := by
    have := Blk.new (V0.alloc (.cells #[.int .i64 (a : Int), .int .i64 (b : Int)] 46)) 42 #[.string y0, .bool y1, .int .i64 y2, .int .i64 y3, .int .i64 y4]
    rwa [World.size_alloc] at this
  refine ⟨?_, ?_, ?_, ?_, ?_, ?_, ?_⟩
  · rw [hcl, hb1.cell]; rfl
  · rw [hcl, hb1.cell]; rfl
  · rw [hcl, hb2.cell]; rfl
  · rw [hcl, hb2.cell]; rfl
  · rw [hcl, hb2.cell]; rfl
  · rw [hcl, hb2.cell]; rfl
  · rw [hcl, hb2.cell]; rfl

set_option maxRecDepth 100000 in
set_option maxHeartbeats 2000000 in
theorem firsts_any (A : Option Addr) (n c B : Nat) (os : List Ob) (w : World) (hO : ObL w B A n c os) (hB : B ≤ w.heap.size) (hnm : ∀ x ∈ allS (lists os), x.2.1.size ≤ maxLen) (hm : (allS (lists os)).length ≤ 100000) :
    Calls Try.prog 17 #[.slice A n c] w fun e w' => ∃ m k, e = .returned (.map (some m)) ∧ w.heap.size ≤ m ∧ Mp w' m k (findV (lists os)) ∧ Below w.heap.size w w' := by
  have hgl : ∀ pre x, pre ++ [x] <+: globs (lists os) → x.2.1.size ≤ maxLen ∧ pre.length < 100000 := fun pre x h => by
    have h1 : x ∈ globs (lists os) := h.subset (by simp)
    have h2 := h.length_le
    have h3 : (globs (lists os)).length ≤ (allS (lists os)).length := List.length_filter_le _ _
    simp at h2
    exact ⟨hnm x (List.mem_filter.1 h1).1, by omega⟩
  obtain ⟨W1, hW1⟩ : ∃ W1, w.alloc (.map #[] 0) = W1 := ⟨_, rfl⟩
  obtain ⟨W2, hW2⟩ : ∃ W2, W1.alloc (.cells #[.map (some w.heap.size)] 48) = W2 := ⟨_, rfl⟩
  obtain ⟨W3, hW3⟩ : ∃ W3, W2.alloc (.cells #[.slice A n c] 22) = W3 := ⟨_, rfl⟩
  have hs1 : W1.heap.size = w.heap.size + 1 := by rw [← hW1]; simp
  have hs2 : W2.heap.size = w.heap.size + 2 := by rw [← hW2]; simp [hs1]
  have hs3 : W3.heap.size = w.heap.size + 3 := by rw [← hW3]; simp [hs2]
  have hb1 : Below w.heap.size w W1 := hW1 ▸ (Below.refl _ _).alloc (Nat.le_refl _) _
  have hb2 : Below w.heap.size w W2 := hW2 ▸ hb1.alloc (by omega) _
  have hb3 : Below w.heap.size w W3 := hW3 ▸ hb2.alloc (by omega) _
  have hmp : Mp W3 w.heap.size 0 (firstOf []) := by
    rw [← hW3, ← hW2, ← hW1]
    exact ((Mp.made w).below ((Below.refl _ _).alloc (Nat.le_refl _) _) (by simp)).below ((Below.refl _ _).alloc (Nat.le_refl _) _) (by simp; omega)
  have hbx : W3.cell? ⟨w.heap.size + 1, 0, none⟩ = some (.map (some w.heap.size)) := by
    rw [← hW3, ← hW2]
    have := ((Blk.new W1 48 #[.map (some w.heap.size)]).alloc (.cells #[.slice A n c] 22)).cell 0
    rw [hs1] at this; simpa using this
  have HT := Lib.hid (globals_tells 3 W2.heap.size B A n c os W3 (by rw [← hW3]; exact (Blk.new W2 _ _).cell 0) (hO.below (hb3.mono hB)) (by omega))
  have HGL := Lib.hid hgl
  have HB := Lib.hid hB
  generalize lists os = L at *
  have HB3 := Lib.hid hb3
  have HMP := Lib.hid hmp
  clear hO hnm hm hgl hb1 hb2 hb3 hmp
  have hmk : (Instr.makeMap 48 none).run Try.prog w = .ok (.map (some w.heap.size)) W1 := by rw [← hW1]; rfl
  refine (callsIn_wide (n := 4)).1 ?_
  refine callsIn_of_wp_marks Try.func17 rfl trivial ?_ rfl
  simp only [Try.ntmps17, List.size_toArray, List.length_cons, List.length_nil, Nat.reduceAdd, Nat.reduceSub, Array.replicate_succ, Array.replicate_zero, List.push_toArray, List.append_toArray, List.nil_append, List.cons_append]
  gi_wp2_with (refine ⟨trivial, ?_⟩; gi_at_call 21; refine (callsIn_wide.2 (globals_any _ _ _ _)).mono ?_; rintro e w2 ⟨rfl, rfl⟩)
  refine wpIn_rangeX rfl (by decide) (gf := 27) (lb := #[.pointer (some ⟨W2.heap.size, 0, none⟩)]) (by rw [hs2]; rfl) trivial (enters_of Try.func27 (by kernel_rfl) rfl) HT.out (Below.refl _ _) (fun _ => rfl)
    (fun k => k < W3.heap.size) (fun k h h' => by unfold Two at h; omega) (fun k h => by omega) (fun k h => by unfold Two at h; omega) (by omega)
    (fun pre X => Mp X w.heap.size pre.length (firstOf pre) ∧ X.cell? ⟨w.heap.size + 1, 0, none⟩ = some (.map (some w.heap.size)) ∧ Below w.heap.size w X ∧ W3.heap.size ≤ X.heap.size)
    (fun _ _ _ => False)
    (fun s X Y ⟨h1, h2, h3, h4⟩ hk => ⟨h1.block (hk.block _ (by omega) h1.lt), hk.cell (by show w.heap.size + 1 < W3.heap.size; omega) h2, h3.trans (hk.below (by omega) fun k hk1 => by omega), Nat.le_trans h4 hk.size⟩)
    (fun _ _ _ _ h _ _ => h)
    ⟨HMP.out, hbx, HB3.out, Nat.le_refl _⟩
    (fun x X => { tmps := #[.slice A n c, undef, .map none, .pointer (some ⟨w.heap.size + 1, 0, none⟩), .pointer (some ⟨X.heap.size, 0, none⟩), .pointer (some ⟨X.heap.size + 1, 0, none⟩), undef, undef, .map (some w.heap.size), .slice A n c, .func (.func 27) #[] #[.pointer (some ⟨w.heap.size + 2, 0, none⟩)], plV x.1, syV x.2, undef, undef, undef, undef, undef, undef, undef, undef, undef, undef, undef, undef, undef, undef], defers := [] })
    (fun x X => (X.alloc (.cells #[.int .i64 (x.1.1 : Int), .int .i64 (x.1.2 : Int)] 46)).alloc (.cells (encSy x.2).toArray 42))
    (fun x X => ((Keeps.refl _ X).alloc _).alloc _) ?assign ?body ?done ?stop
  case assign =>
    rintro l1 ⟨⟨a, b⟩, y0, y1, y2, y3, y4⟩ X K hK
    unfold gsE plV syV
    unfold plV syV encSy at hK
    dsimp only at hK ⊢
    gi_wp2
    exact hK
  case body =>
    rintro l1 pre ⟨⟨a, b⟩, y0, y1, y2, y3, y4⟩ V0 X ⟨hmp, hbx, hbel, hsz1⟩ hpre hsz hk hcl
    unfold encSy at hk hcl
    unfold plV syV
    dsimp only at hk hcl ⊢
    obtain ⟨p0, p1, s0, s1, s2, s3, s4⟩ := two_cells hcl
    obtain ⟨hn, hl⟩ := HGL.out _ _ hpre
    dsimp only at hn
    have hlk := hmp.look hn
    unfold plV at hlk
    obtain ⟨g, hg⟩ : ∃ g, firstOf pre y0 = g := ⟨_, rfl⟩
    rw [hg] at hlk
    obtain ⟨ga, hga⟩ : ∃ ga : Nat, (gP g).1 = ga := ⟨_, rfl⟩
    obtain ⟨gb, hgb⟩ : ∃ gb : Nat, (gP g).2 = gb := ⟨_, rfl⟩
    rw [hga, hgb] at hlk
    clear hga hgb hk hcl
    have HBE := Lib.hid hbel
    have hml := hmp.lt
    have hszX : W3.heap.size ≤ X.heap.size := hsz1
    obtain ⟨X2, hX2⟩ : ∃ X2, X.alloc (.cells #[.int .i64 (ga : Int), .int .i64 (gb : Int)] 46) = X2 := ⟨_, rfl⟩
    have hk2 : Keeps (fun _ => True) X X2 := hX2 ▸ (Keeps.refl _ _).alloc _
    have hs2 : X2.heap.size = X.heap.size + 1 := by rw [← hX2]; simp
    cases g with
    | some p =>
      have HF := Lib.hid (first_had (pre := pre) (x := ((a, b), y0, y1, y2, y3, y4)) hg)
      have HK2 := Lib.hid hk2
      have HMP2 := Lib.hid (hmp.block (hk2.block _ trivial hml))
      have HBX := Lib.hid hbx
      clear hg hmp hbel hpre hl
      dsimp only [Option.isSome] at hlk
      gi_wp2
      exact ⟨HK2.out.mono fun _ _ _ => trivial, HMP2.out.mono (by simp) HF.out, HK2.out.cell trivial HBX.out, HBE.out.trans (HK2.out.below HBE.out.size fun _ _ => trivial), by have := HK2.out.size; omega⟩
    | none =>
      have HF := Lib.hid (first_new (pre := pre) (x := ((a, b), y0, y1, y2, y3, y4)) hg)
      have hmp2 := hmp.block (hk2.block _ trivial hml)
      obtain ⟨W4, hrun, hmp4, hturn⟩ := hmp2.put (by unfold maxLen; omega) hn (a, b) HF.out
      unfold plV at hrun
      dsimp only at hrun
      have HK2 := Lib.hid hk2
      have HMP4 := Lib.hid hmp4
      have HTU := Lib.hid hturn
      have bx2 := hk2.cell trivial hbx
      have p20 := hk2.cell trivial p0
      have p21 := hk2.cell trivial p1
      have s20 := hk2.cell trivial s0
      have HBX := Lib.hid bx2
      clear hg hmp hmp2 hmp4 hturn hbel hpre hl
      dsimp only [Option.isSome] at hlk
      gi_wp2
      have hb4 : w.heap.size < X2.heap.size := by omega
      refine ⟨(HK2.out.mono fun _ _ _ => trivial).grown HTU.out.grown fun r e => by injection e with e; subst e; unfold Two; omega, by simpa using HMP4.out, ?_, (HBE.out.trans (HK2.out.below HBE.out.size fun _ _ => trivial)).grown HTU.out.grown (by omega) (fun r e => by injection e; omega), by have := HK2.out.size; have := HTU.out.grown.size; omega⟩
      exact (World.cell?_of_block (HTU.out.grown.block _ (World.block_lt_of_cell? _ _ HBX.out) (fun e => by have := Option.some.inj e; dsimp only at this; omega))).trans HBX.out
  case done =>
    rintro X ⟨hmp, hbx, hbel, hsz1⟩ hD
    have HMP := Lib.hid hmp
    have HBE := Lib.hid hbel
    clear hmp hbel
    gi_wp2
    refine ⟨by simp, .inl ⟨_, _, rfl, run_takeDeferred hD, ?_⟩⟩
    refine ⟨_, results_tmp rfl _ _ _, _, _, rfl, Nat.le_refl _, HMP.out.block (World.putObj_heap_other (by omega)), ?_⟩
    exact HBE.out.trans ⟨rfl, rfl, rfl, by simp, fun k hk => World.putObj_heap_other (by omega)⟩
  case stop =>
    rintro c pre X _ h _
    exact h.elim
end Go.Proofs.Ytmabenffdpipmaa.By
