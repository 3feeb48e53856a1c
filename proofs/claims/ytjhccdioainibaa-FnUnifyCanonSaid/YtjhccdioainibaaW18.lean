/-
add of the program's graph: a type becomes nodes, equal variables the same one.
-/
import Derived.Test.YtjhccdioainibaaW15
import Derived.Test.YtjhccdioainibaaW8
import Derived.Test.YtjhccdioainibaaW17
namespace Go.Proofs.Ytjhccdioainibaa.Mx
open Go.Proofs.Ytjhccdioainibaa
open Go.RowKit
set_option linter.unusedVariables false
set_option linter.unusedSimpArgs false

theorem _root_.Go.Proofs.Ytjhccdioainibaa.GAdd.push {M : Nat} {sh : Nat → Sh} {vm : Int → Option Nat} (h : GAdd M sh vm) (s : Sh) (hs : ∀ k l r, s = .join k l r → (k = 2 ∨ k = 3) ∧ l < M ∧ r < M) : GAdd (M + 1) (shP sh M s) vm where
  kid := fun n k l r hn e => by
    by_cases hx : n = M
    · subst hx; rw [shP_new] at e; exact hs k l r e
    · rw [shP_old sh s (by omega)] at e; exact h.kid n k l r (by omega) e
  vlt := fun v m e => by
    obtain ⟨h1, h2⟩ := h.vlt v m e
    exact ⟨by omega, by rw [shP_old sh s h1]; exact h2⟩
  inj := h.inj
/-- One more variable has a node. -/
def vmP (vm : Int → Option Nat) (v : Int) (m : Nat) : Int → Option Nat := fun x => if x = v then some m else vm x
theorem _root_.Go.Proofs.Ytjhccdioainibaa.GAdd.var {M : Nat} {sh : Nat → Sh} {vm : Int → Option Nat} (h : GAdd M sh vm) {v : Int} (hv : vm v = none) : GAdd (M + 1) (shP sh M .var) (vmP vm v M) where
  kid := (h.push .var (fun k l r e => by (cases e))).kid
  vlt := fun x m e => by
    unfold vmP at e
    split at e
    · injection e with e; subst e; exact ⟨by omega, shP_new _ _ _⟩
    · exact (h.push .var (fun k l r e => by (cases e))).vlt x m e
  inj := fun x y m e1 e2 => by
    unfold vmP at e1 e2
    split at e1
    · rename_i hx
      injection e1 with e1
      split at e2
      · rename_i hy; rw [hx, hy]
      · have := (h.vlt y m e2).1; omega
    · split at e2
      · injection e2 with e2
        have := (h.vlt x m e1).1; omega
      · exact h.inj x y m e1 e2
theorem VR.put {MV : List IV} {vm : Int → Option Nat} (h : VR MV vm) (v : Int) (m : Nat) : VR (upd v (.int .i64 (m : Int)) MV) (vmP vm v m) := fun x => by
  rw [look_upd]
  unfold vmP
  split
  · rfl
  · exact h x
/-- A change of the map of variables alone. -/
theorem GM.vars {w w' : World} {n0 gb am vb M : Nat} {sh : Nat → Sh} {rep dp : Nat → Nat} {vm vm' : Int → Option Nat} {sv : Value} {MA MV MV' : List IV} (hg : GM w n0 gb am vb M sh rep dp vm sv MA MV) (hgr : w.grownBy w' (some vb)) (hm : IMap w' vb MV') (hv : VR MV' vm') : GM w' n0 gb am vb M sh rep dp vm' sv MA MV' ∧ GK gb am vb sv w w' sv := by
  obtain ⟨d1, d2, d3⟩ := hg.d1
  have old : ∀ b, b < w.heap.size → b ≠ vb → w'.heap[b]? = w.heap[b]? := fun b h1 h2 => hgr.block b h1 (fun e => h2 (by injection e))
  have eg := old gb hg.gl (fun e => d2 e.symm)
  exact ⟨⟨(cellEq eg).trans hg.c0, (cellEq eg).trans hg.c1, (cellEq eg).trans hg.c2, (frozenEq eg).trans hg.f0, Nat.lt_of_lt_of_le hg.gl hgr.size, own_one hg.own (fun g e => old g (own_low hg.own e).2 (hg.d2 g e).2.2), hg.ma.keep (old am hg.ma.lt (fun e => d3 e.symm)), hg.un, hm, hv, hg.lo, hg.d1, hg.d2⟩,
    ⟨hgr.os, hgr.tape, hgr.output, hgr.size, fun b h1 _ _ h4 _ => old b h1 h4, fun g e => .inl e⟩⟩
theorem lookV (w : World) (bm : Nat) (M : List IV) (x : Int) (h : IMap w bm M) : (Instr.lookup 95 (.map (some bm)) (.int .i64 x) true).run Try.prog w = .ok (.tuple #[(look x M).getD (.int .i64 0), .bool (look x M).isSome]) w :=
  lookup_runG Try.underlying95 Try.underlying3 zeroN_run w bm M x h
theorem updV (w : World) (bm : Nat) (M : List IV) (x : Int) (v : Value) (h : IMap w bm M) : ∃ w', (Instr.mapUpdate 95 (.map (some bm)) (.int .i64 x) v).run Try.prog w = .ok () w' ∧ IMap w' bm (upd x v M) ∧ w.grownBy w' (some bm) ∧ w'.heap.size = w.heap.size :=
  update_runG Try.underlying95 Try.underlying3 w bm M x v h
/-- What add leaves. -/
def AddPost (n0 gb am vb M : Nat) (sh : Nat → Sh) (rep dp : Nat → Nat) (vm : Int → Option Nat) (sv : Value) (MA : List IV) (t : Ty) (w : World) (e : Ending) (w' : World) : Prop :=
  ∃ (n M' : Nat) (sh' : Nat → Sh) (vm' : Int → Option Nat) (sv' : Value) (MV' : List IV), e = .returned (.int .i64 (n : Int)) ∧ GM w' n0 gb am vb M' sh' rep dp vm' sv' MA MV' ∧ GK gb am vb sv w w' sv' ∧ GAdd M' sh' vm' ∧ M ≤ M' ∧ M' ≤ M + nodes t ∧ (∀ i, i < M → sh' i = sh i) ∧ (∀ v m, vm v = some m → vm' v = some m) ∧ Nd sh' vm' M' n t

set_option maxRecDepth 100000 in
set_option maxHeartbeats 8000000 in
theorem add_any (w0 : World) (gb am vb : Nat) (rep dp : Nat → Nat) (MA : List IV) : ∀ (d : Nat) (t : Ty) (v : Value) (w : World) (M : Nat) (sh : Nat → Sh) (vm : Int → Option Nat) (sv : Value) (MV : List IV), shp d t = true → TyAt w0 t v → Below w0.heap.size w0 w → GM w w0.heap.size gb am vb M sh rep dp vm sv MA MV → GAdd M sh vm → M + nodes t ≤ 1000000 →
    Calls Try.prog 30 #[.pointer (some ⟨gb, 0, none⟩), .agg #[.int .i64 t.k, .int .i64 t.n, v]] w (AddPost w0.heap.size gb am vb M sh rep dp vm sv MA t w) := by
  intro d
  induction d with
  | zero => intro t v w M sh vm sv MV h; cases h
  | succ d ih =>
    intro t v w M sh vm sv MV hs hx hb hg ha hM
    have HIH := Lib.hid ih
    have HG := Lib.hid hg
    have HGA := Lib.hid ha
    have HB := Lib.hid hb
    have HX := Lib.hid hx
    obtain ⟨S, hS⟩ : ∃ S, w.heap.size = S := ⟨_, rfl⟩
    have hgS : gb < S := by rw [← hS]; exact hg.gl
    have haS : am < S := by rw [← hS]; exact hg.ma.lt
    have hvS : vb < S := by rw [← hS]; exact hg.mv.lt
    have HRS : Hid (∀ g, sv.ownBlock = some g → g < S) := Lib.hid (fun g e => by rw [← hS]; exact (own_low hg.own e).2)
    have hnS : w0.heap.size ≤ S := by rw [← hS]; exact hb.size
    have HS := Lib.hid hS
    clear ih hg ha hb hx
    rcases shp_forms hs with rfl | ⟨n, n0, n1, rfl⟩ | ⟨k, ta, tb, hk, rfl, hta, htb⟩
    · obtain ⟨va, vc, rfl, _⟩ := HX.out.slice
      show Calls Try.prog 30 #[.pointer (some ⟨gb, 0, none⟩), .agg #[.int .i64 1, .int .i64 0, .slice va 0 vc]] w _
      obtain ⟨W1, hW1⟩ : ∃ W, w.alloc (.cells #[.int .i64 1, .int .i64 0, .slice va 0 vc] 28) = W := ⟨_, rfl⟩
      have hB1 : Below w.heap.size w W1 := by rw [← hW1]; exact (Below.refl _ _).alloc (Nat.le_refl _) _
      have HG1 := Lib.hid (HG.out.kept hB1)
      have HK1 : Hid (GK gb am vb sv w W1 sv) := Lib.hid (GK.below hB1)
      have hn1 : w0.heap.size ≤ W1.heap.size := by have := hB1.size; omega
      have HW1 := Lib.hid hW1
      have hM' : M ≤ 1000000 := by omega
      clear hs hS hB1 hW1
      go_enter Try.func30, Try.ntmps30
      go_wp2_with fail
      rw [HW1.out]
      go_at_call 61
      refine (addShape_any w0.heap.size gb am vb M sh rep dp vm sv MA MV .num W1 HG1.out hM' hn1).mono ?_
      rintro e w2 ⟨sv2, rfl, hg2, hk2⟩
      have HG2 := Lib.hid hg2
      have HK2 := Lib.hid (HK1.out.trans hk2)
      clear hg2 hk2
      go_wp2_with fail
      go_ret
      exact ⟨M, M + 1, _, vm, sv2, MV, rfl, HG2.out, HK2.out, HGA.out.push .num (fun k l r e => by (cases e)), by omega, by have := nodes_pos (.node 1 0 []); omega, fun i hi => shP_old sh _ hi, fun v m h => h, .num M (by omega) (shP_new _ _ _)⟩
    · obtain ⟨va, vc, rfl, _⟩ := HX.out.slice
      show Calls Try.prog 30 #[.pointer (some ⟨gb, 0, none⟩), .agg #[.int .i64 4, .int .i64 n, .slice va 0 vc]] w _
      obtain ⟨W1, hW1⟩ : ∃ W, w.alloc (.cells #[.int .i64 4, .int .i64 n, .slice va 0 vc] 28) = W := ⟨_, rfl⟩
      have hB1 : Below w.heap.size w W1 := by rw [← hW1]; exact (Below.refl _ _).alloc (Nat.le_refl _) _
      have HO1 : Hid (OC W1 S 4 n (.slice va 0 vc)) := Lib.hid (by rw [← hW1, ← hS]; exact oc_new w _ _ _ _)
      have HG1 := Lib.hid (HG.out.kept hB1)
      have HK1 : Hid (GK gb am vb sv w W1 sv) := Lib.hid (GK.below hB1)
      have hn1 : w0.heap.size ≤ W1.heap.size := by have := hB1.size; omega
      have HW1 := Lib.hid hW1
      have HMM : Hid (M + 1 ≤ M + nodes (.node 4 n [])) := Lib.hid (by have := nodes_pos (.node 4 n []); omega)
      have hM' : M ≤ 1000000 := by omega
      have c2 := HG1.out.c2
      obtain ⟨x0, x1, x2, f0, f1, f2, xz⟩ := HO1.out
      clear hs hB1 hW1 hM
      rcases hl : vm n with _ | m
      · have L1 : (Instr.lookup 95 (.map (some vb)) (.int .i64 n) true).run Try.prog W1 = .ok (.tuple #[.int .i64 0, .bool false]) W1 := by
          have h := lookV W1 vb MV n HG1.out.mv; rw [HG1.out.vr n, hl] at h; exact h
        have L1d : (Instr.lookup 95 (.map (some vb)) (.int .i64 n) true).run Try.prog W1.drew = .ok (.tuple #[.int .i64 0, .bool false]) W1.drew := by
          have h := lookV W1.drew vb MV n (HG1.out.mv.kept (Below.refl _ _).drew); rw [HG1.out.vr n, hl] at h; exact h
        have HL := Lib.hid hl
        clear hl
        go_enter Try.func30, Try.ntmps30
        go_wp2_with fail
        rw [HW1.out]
        try rw [HS.out]
        clear hS
        go_region_held3 (fun w' => w'.cell? ⟨gb, 2, none⟩ = some (.map (some vb)) ∧ w'.cell? ⟨S, 1, none⟩ = some (.int .i64 n) ∧ (Instr.lookup 95 (.map (some vb)) (.int .i64 n) true).run Try.prog w' = .ok (.tuple #[.int .i64 0, .bool false]) w') (first | go_keep | assumption) (fail)
        have HG1d := Lib.hid (HG1.out.kept (Below.refl _ _).drew)
        have hn1d : w0.heap.size ≤ W1.drew.heap.size := hn1
        go_wp2_with fail
        go_at_call 61
        refine (addShape_any w0.heap.size gb am vb M sh rep dp vm sv MA MV .var W1.drew HG1d.out hM' hn1d).mono ?_
        rintro e w2 ⟨sv2, rfl, hg2, hk2⟩
        have HK2 := Lib.hid (HK1.out.trans (((GK.below (Below.refl _ _).drew).trans hk2)))
        have hz12 : S < w2.heap.size := by have := hk2.size; simp at this; omega
        have eS := hk2.block S (by simpa using xz) (by omega) (by omega) (by omega) (fun e => by have := HRS.out S e; omega)
        have x1' := (cellEq (i := 1) eS).trans x1
        have c2' := hg2.c2
        obtain ⟨w3, L3, him3, hgr3, hz3⟩ := updV w2 vb MV n (.int .i64 (M : Int)) hg2.mv
        obtain ⟨w4, L4, him4, hgr4, hz4⟩ := updV w2.drew vb MV n (.int .i64 (M : Int)) (hg2.mv.kept (Below.refl _ _).drew)
        have HG3 := Lib.hid (hg2.vars hgr3 him3 (hg2.vr.put n M))
        have HG4 := Lib.hid ((hg2.kept (Below.refl _ _).drew).vars hgr4 him4 (hg2.vr.put n M))
        have HP : Hid (∀ w5, GM w5 w0.heap.size gb am vb (M + 1) (shP sh M .var) rep dp (vmP vm n M) sv2 MA (upd n (.int .i64 (M : Int)) MV) → GK gb am vb sv2 w2 w5 sv2 → AddPost w0.heap.size gb am vb M sh rep dp vm sv MA (.node 4 n []) w (.returned (.int .i64 (M : Int))) w5) := Lib.hid (fun w5 h5 k5 =>
          ⟨M, M + 1, _, _, sv2, _, rfl, h5, HK2.out.trans k5, HGA.out.var HL.out, by omega, HMM.out, fun i hi => shP_old sh _ hi, fun x m e => by
            unfold vmP
            rw [if_neg (fun hx => by rw [hx, HL.out] at e; cases e)]
            exact e, .var M n (by omega) (by unfold vmP; rw [if_pos rfl])⟩)
        clear hg2 hk2 eS him3 hgr3 hz3 him4 hgr4 hz4 L1 L1d x0 x1 x2 f0 f1 f2 c2
        go_wp2_with fail
        go_region
        all_goals go_wp2_with fail
        all_goals go_ret
        all_goals first
          | exact HP.out _ HG3.out.1 HG3.out.2
          | exact HP.out _ HG4.out.1 ((GK.below (Below.refl _ _).drew).trans HG4.out.2)
      · have L1 : (Instr.lookup 95 (.map (some vb)) (.int .i64 n) true).run Try.prog W1 = .ok (.tuple #[.int .i64 (m : Int), .bool true]) W1 := by
          have h := lookV W1 vb MV n HG1.out.mv; rw [HG1.out.vr n, hl] at h; exact h
        have L1d : (Instr.lookup 95 (.map (some vb)) (.int .i64 n) true).run Try.prog W1.drew = .ok (.tuple #[.int .i64 (m : Int), .bool true]) W1.drew := by
          have h := lookV W1.drew vb MV n (HG1.out.mv.kept (Below.refl _ _).drew); rw [HG1.out.vr n, hl] at h; exact h
        have HL := Lib.hid hl
        clear hl
        go_enter Try.func30, Try.ntmps30
        go_wp2_with fail
        rw [HW1.out]
        try rw [HS.out]
        clear hS
        go_region_held3 (fun w' => w'.cell? ⟨gb, 2, none⟩ = some (.map (some vb)) ∧ w'.cell? ⟨S, 1, none⟩ = some (.int .i64 n) ∧ (Instr.lookup 95 (.map (some vb)) (.int .i64 n) true).run Try.prog w' = .ok (.tuple #[.int .i64 (m : Int), .bool true]) w') (first | go_keep | assumption) (fail)
        have HG1d := Lib.hid (HG1.out.kept (Below.refl _ _).drew)
        go_wp2_with fail
        go_ret
        exact ⟨m, M, sh, vm, sv, MV, rfl, HG1d.out, HK1.out.trans (GK.below (Below.refl _ _).drew), HGA.out, Nat.le_refl _, by omega, fun i _ => rfl, fun x y e => e, .var m n (HGA.out.vlt _ _ HL.out).1 HL.out⟩
    · obtain ⟨g, o, cap, va, vc, rfl, hgl, z0, z1, z2, hxa, z3, z4, z5, hxb⟩ := HX.out.two
      show Calls Try.prog 30 #[.pointer (some ⟨gb, 0, none⟩), .agg #[.int .i64 k, .int .i64 0, .slice (some ⟨g, o, none⟩) 2 cap]] w _
      obtain ⟨W1, hW1⟩ : ∃ W, w.alloc (.cells #[.int .i64 k, .int .i64 0, .slice (some ⟨g, o, none⟩) 2 cap] 28) = W := ⟨_, rfl⟩
      have hB1 : Below w.heap.size w W1 := by rw [← hW1]; exact (Below.refl _ _).alloc (Nat.le_refl _) _
      have HO1 : Hid (OC W1 S k 0 (.slice (some ⟨g, o, none⟩) 2 cap)) := Lib.hid (by rw [← hW1, ← hS]; exact oc_new w _ _ _ _)
      have HG1 := Lib.hid (HG.out.kept hB1)
      have HK1 : Hid (GK gb am vb sv w W1 sv) := Lib.hid (GK.below hB1)
      have HB1 := Lib.hid (HB.out.trans (hB1.mono HB.out.size))
      have HSX : Hid (Six w0 g o (.int .i64 ta.k) (.int .i64 ta.n) va (.int .i64 tb.k) (.int .i64 tb.n) vc) := Lib.hid ⟨z0, z1, z2, z3, z4, z5, hgl⟩
      have hSX1 := HSX.out.below HB1.out hgl
      have hn1 : w0.heap.size ≤ W1.heap.size := HB1.out.size
      have HR1 : Hid (∀ q, sv.ownBlock = some q → q ≠ S) := Lib.hid (fun q e => by have := HRS.out q e; omega)
      have HN : Hid (nodes (.node k 0 [ta, tb]) = nodes ta + nodes tb + 1) := Lib.hid (nodes_two k 0 ta tb)
      have hMa : M + nodes ta ≤ 1000000 := by have := HN.out; omega
      have HMj := Lib.hid hM
      have HTA := Lib.hid hta
      have HTB := Lib.hid htb
      have HXA := Lib.hid hxa
      have HXB := Lib.hid hxb
      have HW1 := Lib.hid hW1
      have hgS1 : S ≠ gb := by omega
      have haS1 : S ≠ am := by omega
      have hvS1 : S ≠ vb := by omega
      have hk1 : (k == 1) = false := by rw [beq_eq_false_iff_ne]; omega
      have hk4 : (k == 4) = false := by rw [beq_eq_false_iff_ne]; omega
      have HKK := Lib.hid hk
      obtain ⟨x0, x1, x2, f0, f1, f2, xz⟩ := HO1.out
      obtain ⟨s0, s1, s2, s3, s4, s5, sz⟩ := hSX1
      clear hs hB1 hW1 hM hta htb hxa hxb z0 z1 z2 z3 z4 z5 hk
      go_enter Try.func30, Try.ntmps30
      go_wp2_with fail
      rw [HW1.out]
      try rw [HS.out]
      clear hS
      go_region_held3 (fun w' => w'.cell? ⟨S, 0, none⟩ = some (.int .i64 k) ∧ w'.cell? ⟨S, 2, none⟩ = some (.slice (some ⟨g, o, none⟩) 2 cap) ∧ w'.cell? ⟨g, o, none⟩ = some (.int .i64 ta.k) ∧ w'.cell? ⟨g, o + 1, none⟩ = some (.int .i64 ta.n) ∧ w'.cell? ⟨g, o + 2, none⟩ = some va ∧ w'.cell? ⟨g, o + 3, none⟩ = some (.int .i64 tb.k) ∧ w'.cell? ⟨g, o + 4, none⟩ = some (.int .i64 tb.n) ∧ w'.cell? ⟨g, o + 5, none⟩ = some vc) (go_keep)
        (first
          | (go_at_call 61; have hgd := HG3; clear hgd; refine (addShape_any w0.heap.size gb am vb M3 sh3 rep dp vm3 sv3 MA MV3 (.join k n2 n3) _ (by first | exact HG3.out | exact HG3.out.kept (Below.refl _ _).drew) hM3 (by first | exact hn3 | exact hn3)).mono ?_; rintro e w4 ⟨sv4, rfl, hg4, hk4⟩; have HK4 := Lib.hid (HK3.out.trans (GK.trans (GK.below (w := w3) (by first | exact Below.refl _ _ | exact (Below.refl _ _).drew)) hk4)); have HG4 := Lib.hid hg4; have ho4 := HO3.out.keep (GK.trans (GK.below (w := w3) (by first | exact Below.refl _ _ | exact (Below.refl _ _).drew)) hk4).size ((GK.trans (GK.below (w := w3) (by first | exact Below.refl _ _ | exact (Below.refl _ _).drew)) hk4).block S xz3 hgS1 haS1 hvS1 (fun e => HR3.out S e rfl)); obtain ⟨v0, v1, v2, _, _, _, xz4⟩ := ho4; have hs4 := HSX.out.below (HB3.out.trans (GK.low HG3.out (GK.trans (GK.below (w := w3) (by first | exact Below.refl _ _ | exact (Below.refl _ _).drew)) hk4) hn3)) hgl; obtain ⟨v3, v4, v5, v6, v7, v8, _⟩ := hs4; clear hg4 hk4)
          | (go_at_call 30; have hgd := HG2; clear hgd; refine (HIH.out tb vc _ M2 sh2 vm2 sv2 MV2 HTB.out HXB.out (by first | exact HB2.out | exact HB2.out.drew) (by first | exact HG2.out | exact HG2.out.kept (Below.refl _ _).drew) HA2.out hMb).mono ?_; rintro e w3 ⟨n3, M3, sh3, vm3, sv3, MV3, rfl, hg3, hk3, ha3, hm3, hm3', hs3, hv3, hd3⟩; have hk3' : GK gb am vb sv2 w2 w3 sv3 := GK.trans (GK.below (w := w2) (by first | exact Below.refl _ _ | exact (Below.refl _ _).drew)) hk3; have HK3 := Lib.hid (HK2.out.trans hk3'); have HG3 := Lib.hid hg3; have HA3 := Lib.hid ha3; have HB3 := Lib.hid (HB2.out.trans (GK.low HG2.out hk3' hn2)); have ho3 := HO2.out.keep hk3'.size (hk3'.block S xz2 hgS1 haS1 hvS1 (fun e => HR2.out S e rfl)); have HO3 := Lib.hid ho3; have HR3 : Hid (∀ q, sv3.ownBlock = some q → q ≠ S) := Lib.hid (fun q e => by rcases hk3'.row q e with e | e; exact HR2.out q e; omega); have HS3 := Lib.hid hs3; have HV3 := Lib.hid hv3; have HD3 := Lib.hid hd3; have HM3 : Hid (M2 ≤ M3 ∧ M3 ≤ M2 + nodes tb) := Lib.hid ⟨hm3, hm3'⟩; have hM3 : M3 ≤ 1000000 := (by have := HM3.out; omega); have hn3 : w0.heap.size ≤ w3.heap.size := Nat.le_trans hn2 hk3'.size; obtain ⟨q0, q1, q2, _, _, _, xz3⟩ := ho3; have hs3' := HSX.out.below HB3.out hgl; obtain ⟨q3, q4, q5, q6, q7, q8, _⟩ := hs3'; clear hg3 hk3 hk3' ha3 hm3 hm3' hs3 hv3 hd3)
          | (go_at_call 30; refine (HIH.out ta va _ M sh vm sv MV HTA.out HXA.out (by first | exact HB1.out | exact HB1.out.drew) (by first | exact HG1.out | exact HG1.out.kept (Below.refl _ _).drew) HGA.out hMa).mono ?_; rintro e w2 ⟨n2, M2, sh2, vm2, sv2, MV2, rfl, hg2, hk2, ha2, hm2, hm2', hs2, hv2, hd2⟩; have hk2' : GK gb am vb sv W1 w2 sv2 := GK.trans (GK.below (w := W1) (by first | exact Below.refl _ _ | exact (Below.refl _ _).drew)) hk2; have HK2 := Lib.hid (HK1.out.trans hk2'); have HG2 := Lib.hid hg2; have HA2 := Lib.hid ha2; have HB2 := Lib.hid (HB1.out.trans (GK.low HG1.out hk2' hn1)); have ho2 := HO1.out.keep hk2'.size (hk2'.block S xz hgS1 haS1 hvS1 (fun e => HR1.out S e rfl)); have HO2 := Lib.hid ho2; have HR2 : Hid (∀ q, sv2.ownBlock = some q → q ≠ S) := Lib.hid (fun q e => by rcases hk2'.row q e with e | e; exact HR1.out q e; omega); have HS2 := Lib.hid hs2; have HV2 := Lib.hid hv2; have HD2 := Lib.hid hd2; have HM2 : Hid (M ≤ M2 ∧ M2 ≤ M + nodes ta) := Lib.hid ⟨hm2, hm2'⟩; have hMb : M2 + nodes tb ≤ 1000000 := (by have := HN.out; have := HMj.out; have := HM2.out; omega); have hn2 : w0.heap.size ≤ w2.heap.size := Nat.le_trans hn1 hk2'.size; obtain ⟨r0, r1, r2, _, _, _, xz2⟩ := ho2; have hs2' := HSX.out.below HB2.out hgl; obtain ⟨r3, r4, r5, r6, r7, r8, _⟩ := hs2'; clear hg2 hk2 hk2' ha2 hm2 hm2' hs2 hv2 hd2))
      all_goals go_wp2_with fail
      all_goals go_ret
      all_goals
        refine ⟨M3, M3 + 1, _, vm3, sv4, MV3, rfl, HG4.out, HK4.out, HA3.out.push _ (fun k' l r e => ?_), ?_, ?_, fun i hi => ?_, fun v m e => HV3.out v m (HV2.out v m e), ?_⟩
        · injection e with e1 e2 e3
          subst e1 e2 e3
          have := HD2.out.lt
          have := HD3.out.lt
          have := HM3.out
          exact ⟨HKK.out, by omega, by omega⟩
        · have := HM2.out; have := HM3.out; omega
        · have := HM2.out; have := HM3.out; have := HN.out; omega
        · have h2 := HM2.out; have h3 := HM3.out
          rw [shP_old _ _ (by omega), HS3.out i (by omega), HS2.out i hi]
        · have h3 := HM3.out
          refine .join M3 n2 n3 k ta tb (by omega) (shP_new _ _ _) ?_ ?_
          · exact HD2.out.up (by omega) (fun i hi => by rw [shP_old _ _ (by omega), HS3.out i hi]) HV3.out
          · exact HD3.out.up (by omega) (fun i hi => shP_old _ _ hi) (fun v m e => e)

end Go.Proofs.Ytjhccdioainibaa.Mx
