/-
  What the iterator over a list of edits hands back, and what ApplyAll of the program returns: for every text of at most maxLen bytes and every list of edits; what was in memory stays.
-/
import Derived.Test.YtnnjnkeabljlaaaIk
namespace Go.Proofs.Ytnnjnkeabljlaaa
open Go.RowKit Go.Shelf
attribute [local go_sem] Oper.semAt_some
set_option linter.unusedVariables false
set_option linter.unusedSimpArgs false

set_option maxRecDepth 100000 in
set_option maxHeartbeats 1000000 in
/-- Without elements: no round. -/
theorem obo0_in (n : Nat) (l Bs cap : Nat) (a : Option Addr) (J : List Nat → World → Prop) (W : World) (hBs : W.cell? ⟨Bs, 0, none⟩ = some (.slice a 0 cap)) (h0 : J [] W) :
    CallsIn Fence.wide n Try.prog 41 #[.func (.yield l) #[] #[], .pointer (some ⟨Bs, 0, none⟩)] W fun e W' => (∃ v, e = .returned v) ∧ J [] W' := by
  refine callsIn_of_wp Try.func41 rfl trivial ?_ rfl
  simp only [Try.ntmps41, List.size_toArray, List.length_cons, List.length_nil, Nat.reduceAdd, Nat.reduceSub, Array.replicate_succ, Array.replicate_zero, List.push_toArray, List.append_toArray, List.nil_append, List.cons_append]
  gi_wp2
  gi_loopw [3, 8] (fun lg li wr => lg = .int .i64 0 ∧ li = .int .i64 0 ∧ J [] wr) (fun _ _ _ => 0)
  case atStart => exact ⟨rfl, rfl, h0⟩
  case round =>
    obtain ⟨rfl, rfl, hJs⟩ := hrel
    gi_wp2
    go_end0
    first | exact ⟨⟨_, rfl⟩, hJs⟩ | exact hJs

set_option maxHeartbeats 1000000 in
theorem obo_in (a : Option Addr) (len cap : Nat) (n : Nat) (w : World) :
    CallsIn Fence.wide n Try.prog 21 #[.slice a len cap] w fun e w' => e = .returned (.func (.func 41) #[] #[.pointer (some ⟨w.heap.size, 0, none⟩)]) ∧ w' = w.alloc (.cells #[.slice a len cap] 23) := by
  refine callsIn_of_wp Try.func21 rfl trivial ?_ rfl
  simp only [Try.ntmps21, List.size_toArray, List.length_cons, List.length_nil, Nat.reduceAdd, Nat.reduceSub, Array.replicate_succ, Array.replicate_zero, List.push_toArray, List.append_toArray, List.nil_append, List.cons_append]
  gi_wp2
  go_ret
  exact ⟨rfl, rfl⟩

/-- What oneByOne's iterator hands back, for edits in order that lie in memory: all of them, or the first of them. -/
theorem obo_all (n : Nat) (hn : 2 ≤ n) (Bs A : Nat) (a : Option Addr) (L cap : Nat) (s : ByteArray) (ls : List Ed) (hLL : ls.length = L) (hord : ordB s ls = true) (w0 w : World) (hx : EsAt w0 ls (.slice a L cap)) (hb0 : Below w0.heap.size w0 w)
    (hA : w0.heap.size ≤ A) (hAw : A < w.heap.size) (hBA : Bs ≠ A) (hBw : Bs < w.heap.size) (hc : w.cell? ⟨Bs, 0, none⟩ = some (.slice a L cap)) :
    SeqAll Fence.wide n Try.prog 41 #[.pointer (some ⟨Bs, 0, none⟩)] (edV ls) (KpA A) (fun ys => ys = List.range L) (fun pre x => x = pre.length ∧ x < L) w := by
  subst hLL
  cases hx with
  | bare a cap =>
    intro l J W hW _ hY h0
    have hc' := (hW.cell (p := ⟨Bs, 0, none⟩) hBw).trans hc
    exact (obo0_in n l Bs cap _ J W hc' h0).mono fun e W' ⟨he, hj⟩ => ⟨he, _, rfl, hj⟩
  | row ls b o cap hbl hl h0 =>
    intro l J W hW hJa hY h0'
    have hc' := (hW.cell (p := ⟨Bs, 0, none⟩) hBw).trans hc
    exact obo1_in n hn l Bs A b o ls.length cap s ls rfl hord (by omega) hBA J W (Nat.lt_of_lt_of_le hAw hW.size) hJa hY hc'
      (fun j hj => ((h0 j hj).kept hbl hb0).kept (Nat.lt_of_lt_of_le hbl hb0.size) hW) hl h0'

theorem KeepsFrom.of_belowI {B : Nat} {W W' : World} (h : Below W.heap.size W W') : KeepsFrom B W W' :=
  ⟨h.size, fun k o _ hk _ => (h.block k (Array.getElem?_eq_some_iff.1 hk).1).trans hk⟩

set_option maxHeartbeats 4000000 in
theorem applyAll_impl_no (s : ByteArray) (ls : List Ed) (v : Value) (hb : ordB s ls = false) (hs : s.size ≤ maxLen) (hz : EdSz ls) (w : World) (hx : EsAt w ls v) :
    Calls Try.prog 8 #[.string s, v] w fun e w' => e = .returned (.tuple #[.string ⟨#[]⟩, .bool false]) ∧ Below w.heap.size w w' := by
  have HSL := Lib.hid hs
  have HX := Lib.hid hx
  have HB := Lib.hid hb
  have HZ : Hid (EdSz ls) := Lib.hid hz
  clear hs hx hb hz
  have hb0 : Below w.heap.size w (w.alloc (.cells #[.string s] 9)) := (Below.refl _ _).alloc (Nat.le_refl _) _
  have HB0 := Lib.hid hb0
  clear hb0
  go_enter Try.func8, Try.ntmps8
  go_wp2_with fail
  go_at_call 10
  refine (editsInOrder_impl s ls v _ HB.out HSL.out HZ.out _ (HX.out.kept HB0.out)).mono ?_
  rintro e w1 ⟨rfl, hb1⟩
  go_wp2_with fail
  go_ret2
  exact ⟨rfl, HB0.out.trans (hb1.mono HB0.out.size)⟩

set_option maxRecDepth 100000 in
set_option maxHeartbeats 8000000 in
theorem applyAll_impl_yes (s : ByteArray) (ls : List Ed) (v : Value) (y : ByteArray) (hb : ordB s ls = true) (hy : apR s ls = y) (hs : s.size ≤ maxLen) (hz : EdSz ls) (w : World) (hx : EsAt w ls v) :
    Calls Try.prog 8 #[.string s, v] w fun e w' => e = .returned (.tuple #[.string y, .bool true]) ∧ Below w.heap.size w w' := by
  have HSL := Lib.hid hs
  have HX := Lib.hid hx
  have HB := Lib.hid hb
  have HY : Hid (apP s 0 ls = y) := Lib.hid (by rw [← hy]; exact ord_eq hb)
  have HZ : Hid (EdSz ls) := Lib.hid hz
  obtain ⟨a, cap, rfl, hlen⟩ := hx.slice
  obtain ⟨L, hL⟩ : ∃ L, ls.length = L := ⟨_, rfl⟩
  have HL := Lib.hid hL
  rw [hL] at hlen HX ⊢
  clear hs hx hb hz hL hy
  obtain ⟨A, hA⟩ : ∃ A, w.heap.size = A := ⟨_, rfl⟩
  have HAA := Lib.hid hA
  obtain ⟨W1, hW1⟩ : ∃ W1, w.alloc (.cells #[.string s] 9) = W1 := ⟨_, rfl⟩
  have hB1 : Below A w W1 := by rw [← hW1, ← hA]; exact (Below.refl _ _).alloc (Nat.le_refl _) _
  have hz1 : W1.heap.size = A + 1 := by rw [← hW1, ← hA]; simp
  have HN1 : Hid (Boxed W1 A 9 (.string s)) := Lib.hid (by rw [← hW1, ← hA]; exact Boxed.new w _ _)
  have HW1 := Lib.hid hW1
  have HB1 := Lib.hid hB1
  have HX1 := Lib.hid (HX.out.kept (by rw [hA]; exact hB1))
  clear hW1 hB1
  refine (callsIn_wide (n := 10)).1 ?_
  refine callsIn_of_wp_marks Try.func8 rfl trivial ?_ rfl
  simp only [Try.ntmps8, List.size_toArray, List.length_cons, List.length_nil, Nat.reduceAdd, Nat.reduceSub, Array.replicate_succ, Array.replicate_zero, List.push_toArray, List.append_toArray, List.nil_append, List.cons_append]
  gi_wp2_with (fail)
  rw [HW1.out]
  have n0 := HN1.out.cell
  gi_wp2_with (fail)
  refine ⟨trivial, ?_⟩
  gi_at_call 10
  refine (callsIn_wide.2 (editsInOrder_impl s ls _ _ HB.out HSL.out HZ.out _ HX1.out)).mono ?_
  rintro e w1 ⟨rfl, hb1⟩
  have HN2 := Lib.hid (HN1.out.kept (⟨hb1.os, hb1.tape, hb1.output, hb1.size, fun k hk _ => hb1.block k hk⟩ : W1.grownBy w1 none) (by simp))
  have HB2 := Lib.hid (HB1.out.trans (hb1.mono (by omega)))
  have hz2 : A + 1 ≤ w1.heap.size := by have := hb1.size; omega
  clear hb1 n0
  gi_wp2_with (fail)
  refine ⟨trivial, ?_⟩
  gi_at_call 21
  refine (obo_in _ _ _ _ _).mono ?_
  rintro e w2 ⟨rfl, rfl⟩
  gi_wp2_with (fail)
  obtain ⟨B, hB⟩ : ∃ B, w1.heap.size = B := ⟨_, rfl⟩
  obtain ⟨W2, hW2⟩ : ∃ W2, w1.alloc (.cells #[.slice a L cap] 23) = W2 := ⟨_, rfl⟩
  have hb2 : Below w1.heap.size w1 W2 := by rw [← hW2]; exact (Below.refl _ _).alloc (Nat.le_refl _) _
  have hz3 : W2.heap.size = B + 1 := by rw [← hW2, ← hB]; simp
  have HBS : Hid (W2.cell? ⟨B, 0, none⟩ = some (.slice a L cap)) := Lib.hid (by have h := (Boxed.new w1 23 (.slice a L cap)).cell; rw [hW2, hB] at h; exact h)
  have hg2 : w1.grownBy W2 none := by rw [← hW2]; exact World.grownBy_alloc _ _ _
  have HN3 := Lib.hid (HN2.out.kept hg2 (by simp))
  have HB3 := Lib.hid (HB2.out.trans (hb2.mono (by omega)))
  have hBA : A + 1 ≤ B := by omega
  rw [hB]
  rw [hW2]
  clear hW2 hg2 hb2 hB
  have hst := obo_all (10 - 1) (by omega) B A a L cap s ls HL.out HB.out w W2 HX.out (by rw [hA]; exact HB3.out) (by omega) (by omega) (by omega) (by omega) HBS.out
  refine wpIn_rangeFunc_all rfl (by omega) (gf := 41) (lb := #[.pointer (some ⟨B, 0, none⟩)]) rfl trivial (enters_of Try.func41 (by kernel_rfl) rfl) hst (Below.refl _ _) (fun h k => KpA.trans h k) (fun W l o o' h1 h2 h3 h4 => KpA.put (w := W2) W l o o' h1 h2 h3 h4) (fun _ => rfl)
    (fun pre W => ∃ (c : ByteArray), pre = List.range pre.length ∧ Boxed W A 9 (.string c) ∧ Hid (apP c (Dk ls pre.length) (ls.drop pre.length) = y ∧ (c.size : Int) = s.size + Dk ls pre.length) ∧ Below A w W ∧ B + 1 ≤ W.heap.size)
    ?hI ⟨s, rfl, HN3.out, Lib.hid ⟨HY.out, by show (s.size : Int) = s.size + 0; omega⟩, HB3.out, by omega⟩
    (fun j a' W => ∃ Bx, B + 1 ≤ Bx ∧ EdAt W Bx ((ls.getD j Ed.dummy).f + Dk ls j) ((ls.getD j Ed.dummy).t + Dk ls j) (ls.getD j Ed.dummy).i ∧
      a' = { tmps := #[.string s, .slice a L cap, .pointer (some ⟨A, 0, none⟩), undef, .string ⟨#[]⟩, .bool false, .pointer (some ⟨Bx, 0, none⟩), .string s, .slice a L cap, .bool true, .bool false, .slice a L cap, .func (.func 41) #[] #[.pointer (some ⟨B, 0, none⟩)], .agg #[.int .i64 ((ls.getD j Ed.dummy).f + Dk ls j), .int .i64 ((ls.getD j Ed.dummy).t + Dk ls j), .string (ls.getD j Ed.dummy).i], undef, undef, undef, undef], defers := [] })
    ?hAx ?assign ?body ?done
  case hI =>
    rintro pre X X' row ⟨c, h1, h2, h3, h5, h6⟩ hg hr
    have hr2 := fun q e => (hr q e).2
    have hsz := h5.size
    exact ⟨c, h1, boxed_own A 9 (fun _ : Unit => .string c) () X X' row h2 hg hr2, h3, h5.grown hg (by omega) (fun q e => by have := (hr q e).1; omega), Nat.le_trans h6 hg.size⟩
  case hAx =>
    rintro j a' _ X X' row ⟨Bx, h1, h2, h3⟩ hg hr
    have hr2 := fun q e => (hr q e).2
    exact ⟨Bx, h1, ⟨cell_kept h2.a0 hg hr2, cell_kept h2.a1 hg hr2, cell_kept h2.a2 hg hr2, (frozen_kept h2.a0 hg hr2).trans h2.b0, (frozen_kept h2.a1 hg hr2).trans h2.b1, (frozen_kept h2.a2 hg hr2).trans h2.b2, Nat.lt_of_lt_of_le h2.sz hg.size⟩, h3⟩
  case assign =>
    rintro l pre j X K ⟨c, h1, h2, h3, h5, h6⟩ - hK
    have H1 := Lib.hid h1
    clear h1
    have hsz := h5.size
    unfold edV
    gi_wp2
    exact hK _ _ ((KeepsOthers.alloc _ _).from _) (KpA.below ((Below.refl _ X).alloc (Nat.le_refl _) _)) ⟨c, H1.out, h2.alloc _, h3, h5.alloc (by omega) _, by simp; omega⟩ ⟨X.heap.size, h6, edAt_new X _ _ _ _, rfl⟩
  case body =>
    rintro l pre j a' X ⟨c, h1, h2, h3, h5, h6⟩ ⟨hj, hjL⟩ ⟨Bx, hBx, hk, rfl⟩
    have H1 := Lib.hid h1
    subst hj
    obtain ⟨k, hkk⟩ : ∃ k, pre.length = k := ⟨_, rfl⟩
    rw [hkk] at h1 H1 h3 hjL hk
    rw [hkk]
    obtain ⟨g1, g2, g3, g4, g5, g6, g7, g8, g9, g10, g11, g12, g13⟩ := apP_step HB.out (k := k) (by rw [HL.out]; exact hjL) (c := c) (d := Dk ls k) rfl h3.out.2
    have hs1 : ls.getD k Ed.dummy = ls.getD k Ed.dummy := rfl
    obtain ⟨x, hx⟩ : ∃ x, ls.getD k Ed.dummy = x := ⟨_, rfl⟩
    obtain ⟨d, hd⟩ : ∃ d, Dk ls k = d := ⟨_, rfl⟩
    rw [hx, hd] at g1 g11 g12 g13 hk
    rw [hx] at g2 g3 g4 g5 g8 g9
    rw [hd] at g6 g7 g8 g9
    rw [hx, hd]
    have H3 := Lib.hid h3.out.2
    have HAP : Hid (apP (ap c (x.f + d) (x.t + d) x.i) (d + x.g) (ls.drop (k + 1)) = y) := Lib.hid (by rw [← g1]; have := h3.out.1; rw [hd] at this; exact this)
    obtain ⟨c2, hc2⟩ : ∃ c2, ap c (x.f + d) (x.t + d) x.i = c2 := ⟨_, rfl⟩
    rw [hc2] at g12 g13 HAP
    have HC2 := Lib.hid hc2
    have HG11 := Lib.hid g11
    have HG12 := Lib.hid g12
    have n0 := h2.cell
    have hbA2 : Bx ≠ A := by omega
    obtain ⟨e0, e1, e2, e3, e4, e5, e6⟩ := hk
    have H2 := Lib.hid h2
    have H5 := Lib.hid h5
    clear h1 h2 h3 h5 g1 g11 hc2 hx hd hs1 g12
    gi_wp2_with (fail)
    refine ⟨trivial, ?_⟩
    gi_at_call 22
    refine (CallsIn.inRound l (callsIn_wide.2 (applied_at c (x.f + d) (x.t + d) x.i c2 HC2.out (by omega) (by omega) (by omega) (by omega) (by omega) _))).mono ?_
    rintro e w2 ⟨rfl, hb2⟩
    have HB2 := Lib.hid hb2
    have HN2 := Lib.hid (H2.out.kept (⟨hb2.os, hb2.tape, hb2.output, hb2.size, fun q hq _ => hb2.block q hq⟩ : X.grownBy w2 none) (by simp))
    have hz2 : X.heap.size ≤ w2.heap.size := hb2.size
    have hAX : A + 1 ≤ X.heap.size := by omega
    clear hb2 e0 e1 e2 e3 e4 e5 e6 n0
    have n0 := HN2.out.cell
    have n1 := HN2.out.frozen
    gi_wp2_with (fail)
    refine ⟨(KeepsFrom.of_belowI HB2.out).trans ((KeepsOthers.setCell _ _ _).from _), (KpA.below HB2.out).trans (KpA.set _ _), c2, ?_, HN2.out.set _, Lib.hid ⟨?_, ?_⟩, ?_, by simp; omega⟩
    · rw [H1.out, List.length_append, List.length_range]; simp [List.range_succ]
    · rw [List.length_append, hkk]
      show apP c2 (Dk ls (k + 1)) (ls.drop (k + 1)) = y
      rw [show Dk ls (k + 1) = d + x.g from HG11.out.symm]
      exact HAP.out
    · rw [List.length_append, hkk]
      show (c2.size : Int) = s.size + Dk ls (k + 1)
      rw [show Dk ls (k + 1) = d + x.g from HG11.out.symm]
      exact HG12.out
    · exact (H5.out.trans (HB2.out.mono (by omega))).setCell (p := ⟨A, 0, none⟩) (by show A ≤ A; omega) _
  case done =>
    rintro D ys X hD rfl ⟨c, h1, h2, h3, h5, h6⟩ hK
    have HC : c = y := by
      have h := h3.out.1
      rw [List.length_range, List.drop_of_length_le (by rw [HL.out]; exact Nat.le_refl _)] at h
      exact h
    subst HC
    clear h1 h3
    have n0 := h2.cell
    gi_wp2_with (fail)
    refine ⟨by simp, .inl ⟨_, _, rfl, run_takeDeferred hK, ?_⟩⟩
    have hgp := grownBy_putObj' X D (.deferred none)
    refine ⟨.tuple #[.string c, .bool true], by simp [results, Try.results8, Try.f8, go_sem], rfl, ?_⟩
    rw [HAA.out]
    exact h5.grown hgp (by omega) (fun q e => by cases e; omega)
end Go.Proofs.Ytnnjnkeabljlaaa
