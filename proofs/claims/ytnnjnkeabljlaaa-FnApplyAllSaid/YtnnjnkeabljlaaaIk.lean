/-
  ApplyAll of the program: the iterator over the edits of a list, each as an edit of the text after those before it; what ApplyAll returns. For every text of at most maxLen bytes and every list of edits; what was in memory stays.
-/
import Derived.RangeFuncNested
import Derived.RangeFuncBound
import Derived.RangeFuncCalls
import Derived.RangeFuncLeaves
import Derived.Shelf.Abstract
import Derived.Shelf.RegionOpen
import Derived.WalkKit
import Derived.OwnWalkIn
import Derived.TacticsInMore
import Derived.LoopNIn
import Derived.LoopIn
import Derived.Test.YtnnjnkeabljlaaaIh
import Derived.Test.YtnnjnkeabljlaaaIq
namespace Go.Proofs.Ytnnjnkeabljlaaa
open Go.RowKit Go.Shelf
attribute [local go_sem] Oper.semAt_some
set_option linter.unusedVariables false
set_option linter.unusedSimpArgs false

theorem heap_setA (w : World) (a : Addr) (b : Nat) (u : Value) (h : b ≠ a.block) : (w.setCell a u).heap[b]? = w.heap[b]? := Below.heap_setCell _ _ _ _ h
/-- Every block of cells but one lies as it lay. -/
def KpA (A : Nat) (W W' : World) : Prop := W.heap.size ≤ W'.heap.size ∧ ∀ (r : Nat) (o : Obj), r ≠ A → W.heap[r]? = some o → o.isCells = true → W'.heap[r]? = some o
theorem KpA.refl (A : Nat) (W : World) : KpA A W W := ⟨Nat.le_refl _, fun _ _ _ h _ => h⟩
theorem KpA.trans {A : Nat} {U V W : World} (h : KpA A U V) (k : KpA A V W) : KpA A U W := ⟨Nat.le_trans h.1 k.1, fun r o h1 h2 h3 => k.2 r o h1 (h.2 r o h1 h2 h3) h3⟩
theorem KpA.below {A : Nat} {W W' : World} (h : Below W.heap.size W W') : KpA A W W' := ⟨h.size, fun r o _ h2 _ => (h.block r (Array.getElem?_eq_some_iff.1 h2).1).trans h2⟩
theorem KpA.set {A : Nat} (W : World) (v : Value) : KpA A W (W.setCell ⟨A, 0, none⟩ v) := ⟨by simp, fun r o h1 h2 _ => (heap_setA W ⟨A, 0, none⟩ r v h1).trans h2⟩
theorem KpA.put {A : Nat} {w : World} (W : World) (l : Nat) (o o' : Obj) (_ : w.heap.size ≤ l) (h : W.heap[l]? = some o) (hc : o.isCells = false) (_ : o.isWalk = false) : KpA A W (W.putObj l o') := by
  refine ⟨(grownBy_putObj' W l o').size, fun r o2 _ h2 h3 => ?_⟩
  have hne : r ≠ l := by
    intro e
    rw [e, h] at h2
    injection h2 with h2
    rw [h2, h3] at hc
    exact absurd hc (by simp)
  exact ((grownBy_putObj' W l o').block r (Array.getElem?_eq_some_iff.1 h2).1 (fun e => hne (by injection e))).trans h2
theorem KpA.block {A : Nat} {W W' : World} (h : KpA A W W') {b o : Nat} {v : Value} (hb : b ≠ A) (hc : W.cell? ⟨b, o, none⟩ = some v) : W'.heap[b]? = W.heap[b]? := by
  obtain ⟨ob, h1, h2⟩ := cells_of_cell hc
  exact (h.2 b ob hb h1 h2).trans h1.symm
theorem KpA.cell {A : Nat} {W W' : World} (h : KpA A W W') {b o : Nat} {v : Value} (hb : b ≠ A) (hc : W.cell? ⟨b, o, none⟩ = some v) : W'.cell? ⟨b, o, none⟩ = some v :=
  (World.cell?_of_block (a := ⟨b, o, none⟩) (h.block hb hc)).trans hc
theorem KpA.frozen {A : Nat} {W W' : World} (h : KpA A W W') {b o : Nat} {v : Value} (hb : b ≠ A) (hc : W.cell? ⟨b, o, none⟩ = some v) : W'.frozen? ⟨b, o, none⟩ = W.frozen? ⟨b, o, none⟩ :=
  World.frozen?_of_block (a := ⟨b, o, none⟩) (h.block hb hc)
theorem KpA.ed {A : Nat} {W W' : World} (h : KpA A W W') {E : Nat} {f t : Int} {i : ByteArray} (hE : E ≠ A) (k : EdAt W E f t i) : EdAt W' E f t i :=
  ⟨h.cell hE k.a0, h.cell hE k.a1, h.cell hE k.a2, (h.frozen hE k.a0).trans k.b0, (h.frozen hE k.a1).trans k.b1, (h.frozen hE k.a2).trans k.b2, Nat.lt_of_lt_of_le k.sz h.1⟩
theorem KpA.fd {A : Nat} {W W' : World} (h : KpA A W W') {b o : Nat} {x : Ed} (hb : b ≠ A) (k : EFd W b o x) : EFd W' b o x :=
  ⟨h.cell hb k.c0, h.cell hb k.c1, h.cell hb k.c2⟩
/-- By how much the first k edits make a text longer. -/
def Dk (ls : List Ed) (k : Nat) : Int := grS (ls.take k)
/-- The k-th edit, as an edit of the text after those before it. -/
def edV (ls : List Ed) (k : Nat) : Array Value := #[.agg #[.int .i64 ((ls.getD k Ed.dummy).f + Dk ls k), .int .i64 ((ls.getD k Ed.dummy).t + Dk ls k), .string (ls.getD k Ed.dummy).i]]
theorem ord_at {s : ByteArray} {ls : List Ed} (h : ordB s ls = true) {k : Nat} (hk : k < ls.length) :
    0 ≤ (ls.getD k Ed.dummy).f ∧ (ls.getD k Ed.dummy).f ≤ (ls.getD k Ed.dummy).t ∧ (ls.getD k Ed.dummy).t ≤ 2000 ∧ (ls.getD k Ed.dummy).i.size ≤ 2000 ∧ -2000 ≤ Dk ls k ∧ Dk ls k ≤ 2000 ∧ Dk ls k + (ls.getD k Ed.dummy).g = Dk ls (k + 1) := by
  obtain ⟨hv, hio⟩ := ordB_iff.mp h
  have hs := tv_size hv
  obtain ⟨e, n, h1, h2, h3, h4, h5, h6⟩ := ioB_drop hs k hio (Int.le_refl 0) (by omega) (by omega) (by omega) (Nat.le_of_lt hk)
  rw [drop_at hk] at h1
  obtain ⟨g1, g2, g3, g4⟩ := ioB_cons.mp h1
  obtain ⟨_, hvi, a0, a1, a2, a3⟩ := fitsB_iff.mp g1
  have ht : ls.take (k + 1) = ls.take k ++ [ls.getD k Ed.dummy] := by
    have : ls.getD k Ed.dummy = ls[k] := by simp [List.getD, hk]
    rw [this]; exact (List.take_append_getElem hk).symm
  have hgg : Dk ls (k + 1) = Dk ls k + (ls.getD k Ed.dummy).g := by
    unfold Dk
    rw [ht, grS_app]
    show grS (ls.take k) + ((ls.getD k Ed.dummy).g + 0) = _
    omega
  have hd : Dk ls k = grS (ls.take k) := rfl
  exact ⟨a0, a1, by omega, tv_size hvi, by omega, by omega, hgg.symm⟩

set_option maxRecDepth 100000 in
set_option maxHeartbeats 8000000 in
/-- The iterator's closure, for every body that keeps all blocks of cells but one. -/
theorem obo1_in (n : Nat) (hn : 2 ≤ n) (l Bs A b o L cap : Nat) (s : ByteArray) (ls : List Ed) (hLL : ls.length = L) (hord : ordB s ls = true) (hbA : b ≠ A) (hBA : Bs ≠ A) (J : List Nat → World → Prop)
    (W : World) (hAW : A < W.heap.size) (hJa : AbidesFrom W.heap.size J)
    (hY : ∀ pre x W, J pre W → (x = pre.length ∧ x < L) → YieldAt Fence.wide (n - 1) Try.prog l (edV ls x) W fun e W' =>
      e = .returned (.bool true) ∧ J (pre ++ [x]) W' ∧ KpA A W W')
    (hBs : W.cell? ⟨Bs, 0, none⟩ = some (.slice (some ⟨b, o, none⟩) L cap)) (hc : ∀ j, j < L → EFd W b (o + j * 3) (ls.getD j Ed.dummy)) (hLi : L ≤ 9223372036854775807) (h0 : J [] W) :
    CallsIn Fence.wide n Try.prog 41 #[.func (.yield l) #[] #[], .pointer (some ⟨Bs, 0, none⟩)] W fun e W' => (∃ v, e = .returned v) ∧ ∃ ys, ys = List.range L ∧ J ys W' := by
  have hn1 : 1 ≤ n := by omega
  have HC := Lib.hid hc
  have HORD := Lib.hid hord
  have HLL := Lib.hid hLL
  clear hc hord hLL
  refine callsIn_of_wp Try.func41 rfl trivial ?_ rfl
  simp only [Try.ntmps41, List.size_toArray, List.length_cons, List.length_nil, Nat.reduceAdd, Nat.reduceSub, Array.replicate_succ, Array.replicate_zero, List.push_toArray, List.append_toArray, List.nil_append, List.cons_append]
  gi_wp2
  gi_loopw [3, 8] (fun lg li wr => ∃ (k : Nat) (d : Int), k ≤ L ∧ li = .int .i64 k ∧ lg = .int .i64 d ∧ Hid (d = Dk ls k) ∧ J (List.range k) wr ∧ KpA A W wr) (fun _ i _ => L - (intOf i).toNat)
  case atStart => exact ⟨0, 0, Nat.zero_le _, rfl, rfl, Lib.hid rfl, h0, KpA.refl _ _⟩
  case round =>
    obtain ⟨k, d, hk, rfl, rfl, hd, hJs, hnx⟩ := hrel
    by_cases hlt : k < L
    case neg =>
      have hki : ¬ (k : Int) < (L : Int) := by omega
      have hkl : k = L := by omega
      subst hkl
      clear hlt
      gi_wp2
      go_end0
      first | exact ⟨⟨_, rfl⟩, _, rfl, hJs⟩ | exact ⟨⟨_, rfl⟩, hJs⟩
    have hki : (k : Int) < (L : Int) := by omega
    have hk0 : (0 : Int) ≤ (k : Int) := by omega
    obtain ⟨g0, g1, g2, g3, g4, g5, g6⟩ := ord_at HORD.out (k := k) (by rw [HLL.out]; exact hlt)
    rw [← hd.out] at g4 g5 g6
    have hfd := hnx.fd hbA (HC.out k hlt)
    have HYK := Lib.hid (hY (List.range k) k)
    unfold edV at HYK
    rw [← hd.out] at HYK
    obtain ⟨xk, hxk⟩ : ∃ x, ls.getD k Ed.dummy = x := ⟨_, rfl⟩
    rw [hxk] at g0 g1 g2 g3 g6 hfd HYK
    obtain ⟨x0, x1, x2⟩ := hfd
    have hgd : xk.g = (xk.i.size : Int) - (xk.t - xk.f) := rfl
    have HG6 := Lib.hid g6
    have hgb : -4000 ≤ xk.g ∧ xk.g ≤ 4000 := by omega
    obtain ⟨gx, hgx⟩ : ∃ g, xk.g = g := ⟨_, rfl⟩
    have HGX : Hid (grw xk.f xk.t xk.i = gx) := Lib.hid hgx
    rw [hgx] at hgb HG6
    obtain ⟨hgb1, hgb2⟩ := hgb
    have s1 : IntKind.i64.wrap (d + gx) = d + gx := IntWalk.i64_in _ (by omega)
    clear hxk hgd g6 hgx
    obtain ⟨w1, hw1⟩ : ∃ U, wr.alloc (.cells #[.int .i64 xk.f, .int .i64 xk.t, .string xk.i] 30) = U := ⟨_, rfl⟩
    have hb1 : Below wr.heap.size wr w1 := by rw [← hw1]; exact (Below.refl _ _).alloc (Nat.le_refl _) _
    have HE1 : Hid (EdAt w1 wr.heap.size xk.f xk.t xk.i) := Lib.hid (by rw [← hw1]; exact edAt_new wr xk.f xk.t xk.i 30)
    have HW1 := Lib.hid hw1
    have HB1 := Lib.hid hb1
    have hEA : wr.heap.size ≠ A := by have := hnx.1; omega
    have hJ1 : J (List.range k) w1 := hJa _ _ _ none hJs (⟨hb1.os, hb1.tape, hb1.output, hb1.size, fun q hq _ => hb1.block q hq⟩ : wr.grownBy w1 none) (fun r e => by cases e)
    clear hw1 hb1
    gi_wp2_with (fail)
    rw [HW1.out]
    obtain ⟨e0, e1, e2, e3, e4, e5, e6⟩ := HE1.out
    gi_wp2_with (fail)
    refine ⟨trivial, ?_⟩
    gi_at_call 42
    refine (callsIn_wide.2 (shifted_any xk.f xk.t xk.i d (by omega) (by omega) (by omega) (by omega) (by omega) (by omega) _)).mono ?_
    rintro e w2 ⟨rfl, hb2⟩
    have HE2 := Lib.hid (HE1.out.below hb2)
    have hJ2 : J (List.range k) w2 := hJa _ _ _ none hJ1 (⟨hb2.os, hb2.tape, hb2.output, hb2.size, fun q hq _ => hb2.block q hq⟩ : w1.grownBy w2 none) (fun r e => by cases e)
    have hk2 : KpA A W w2 := hnx.trans ((KpA.below HB1.out).trans (KpA.below hb2))
    clear hb2 e0 e1 e2 e3 e4 e5 e6
    obtain ⟨fn, tmps, assign, body, hy, hR⟩ := HYK.out w2 hJ2 ⟨List.length_range.symm, hlt⟩
    gi_wp2
    refine hR.mono ?_
    rintro e W3 ⟨rfl, hJ3, hk3⟩
    have HE3 := Lib.hid (hk3.ed hEA HE2.out)
    obtain ⟨e0, e1, e2, e3, e4, e5, e6⟩ := HE3.out
    rw [← List.range_succ] at hJ3
    clear hy hR
    gi_wp2_with (fail)
    refine ⟨trivial, ?_⟩
    gi_at_call 25
    refine (callsIn_wide.2 (growth_at xk.f xk.t xk.i gx HGX.out g0 g1 (by omega) (by omega) _)).mono ?_
    rintro e w4 ⟨rfl, hb4⟩
    have hJ4 : J (List.range (k + 1)) w4 := hJa _ _ _ none hJ3 (⟨hb4.os, hb4.tape, hb4.output, hb4.size, fun q hq _ => hb4.block q hq⟩ : W3.grownBy w4 none) (fun r e => by cases e)
    have hk4 : KpA A W w4 := hk2.trans (hk3.trans (KpA.below hb4))
    clear hb4 e0 e1 e2 e3 e4 e5 e6
    gi_wp2
    go_roundw
    case rel => exact ⟨k + 1, d + gx, by omega, by go_num, rfl, HG6, hJ4, hk4⟩
    case measure => simp [intOf]; omega

end Go.Proofs.Ytnnjnkeabljlaaa
